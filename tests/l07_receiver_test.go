package tests

import (
	"math"
	"slices"
	"strings"
	"testing"

	"loop.example/g01633/impl"
)

// recvStates are the states with their names, in the order of the constants.
var recvStates = []struct {
	state int
	name  string
}{
	{impl.RecvOpen, "open"},
	{impl.RecvSized, "sized"},
	{impl.RecvAll, "all"},
	{impl.RecvRead, "read"},
	{impl.RecvReset, "reset"},
	{impl.RecvResetRead, "resetread"},
}

// recvBases put the small tables at the beginning of the places, somewhere, and so that the place behind the last one is MaxQuic.
var recvBases = []int{0, 1000, impl.MaxQuic - smallPlaces}

// recvModel is the model of a receiver: the table of its bytes beside its numbers. The buffer of the receiver in it is not used.
type recvModel struct {
	table byteTable
	impl.Receiver
}

// receiver returns the receiver of the model.
func (m recvModel) receiver() impl.Receiver {
	r := m.Receiver
	r.Buffer = m.table.buffer()
	return r
}

// hasAll reports whether every place from the next one to the final size has a byte, and none behind it.
func (m recvModel) hasAll() bool {
	ready, _ := m.table.take(math.MaxInt)
	return m.Final == m.table.base+m.table.next+len(ready)
}

// isEmpty reports whether no place from the next one on has a byte.
func (m recvModel) isEmpty() bool {
	return !slices.ContainsFunc(m.table.bytes[m.table.next:], func(c int) bool { return c != noByte })
}

// end returns the place behind the last byte, or the next one.
func (m recvModel) end() int {
	for i := len(m.table.bytes); i > m.table.next; i-- {
		if m.table.bytes[i-1] != noByte {
			return m.table.base + i
		}
	}
	return m.table.base + m.table.next
}

// isValid reports whether the receiver of the model, whose buffer is valid, is.
func (m recvModel) isValid() bool {
	inPlaces := func(n int) bool { return n >= 0 && n <= impl.MaxQuic }
	if m.end() > m.Highest || !inPlaces(m.Highest) || !inPlaces(m.Code) {
		return false
	}
	known := m.Final != impl.NoFinal
	if known && (m.Final < m.Highest || !inPlaces(m.Final)) {
		return false
	}
	switch m.State {
	case impl.RecvOpen:
		return !known && m.Code == 0
	case impl.RecvSized:
		return known && !m.hasAll() && m.Code == 0
	case impl.RecvAll:
		return known && m.hasAll() && m.Code == 0
	case impl.RecvRead:
		return known && m.hasAll() && m.Code == 0 && m.isEmpty()
	case impl.RecvReset, impl.RecvResetRead:
		return known && m.Final == m.Highest && m.isEmpty()
	}
	return false
}

// isRefused reports whether an end contradicts what is known of the final size.
func (m recvModel) isRefused(end int, isFinal bool) bool {
	if m.Final != impl.NoFinal && end > m.Final {
		return true
	}
	return isFinal && (m.Final != impl.NoFinal && end != m.Final || end < m.Highest)
}

// isChanging reports whether data and resets change something.
func (m recvModel) isChanging() bool {
	return m.State == impl.RecvOpen || m.State == impl.RecvSized
}

// receive is ReceiveData of data from an index on, which lies within the table.
func (m recvModel) receive(index int, data string, fin bool) (recvModel, int) {
	end := m.table.base + index + len(data)
	if m.isRefused(end, fin) {
		return m, impl.ErrFinal
	}
	if !m.isChanging() {
		return m, impl.ErrNone
	}
	m.table = m.table.insert(index, data)
	m.Highest = max(m.Highest, end)
	if fin {
		m.State, m.Final = impl.RecvSized, end
	}
	if m.Final != impl.NoFinal && m.hasAll() {
		m.State = impl.RecvAll
	}
	return m, impl.ErrNone
}

// reset is ReceiveReset.
func (m recvModel) reset(code int, final int) (recvModel, int) {
	if m.isRefused(final, true) {
		return m, impl.ErrFinal
	}
	if !m.isChanging() {
		return m, impl.ErrNone
	}
	m.table = newTable(m.table.base, m.table.next, len(m.table.bytes))
	m.State, m.Final, m.Highest, m.Code = impl.RecvReset, final, final, code
	return m, impl.ErrNone
}

// read is ReadReceiver.
func (m recvModel) read(most int) (string, recvModel) {
	taken := ""
	taken, m.table = m.table.take(most)
	if m.State == impl.RecvAll && m.table.base+m.table.next == m.Final {
		m.State = impl.RecvRead
	}
	if m.State == impl.RecvReset {
		m.State = impl.RecvResetRead
	}
	return taken, m
}

// everySmallReceiver calls f for all small tables with all states and all numbers around the places, also those that are not valid.
func everySmallReceiver(base int, f func(m recvModel)) {
	places := []int{impl.NoFinal}
	for n := max(0, base-1); n <= base+smallPlaces+1; n++ {
		places = append(places, n)
	}
	everySmallTable(base, func(table byteTable) {
		for _, s := range recvStates {
			for _, final := range places {
				for _, highest := range places {
					for code := range 2 {
						f(recvModel{table, impl.Receiver{State: s.state, Final: final, Highest: highest, Code: code}})
					}
				}
			}
		}
	})
}

// everyValidReceiver calls f for those of everySmallReceiver that are valid.
func everyValidReceiver(base int, f func(m recvModel)) {
	everySmallReceiver(base, func(m recvModel) {
		if m.isValid() {
			f(m)
		}
	})
}

// receiverOf is a short way to write a receiver.
func receiverOf(state int, final int, highest int, code int, b impl.Buffer) impl.Receiver {
	return impl.Receiver{State: state, Buffer: b, Final: final, Highest: highest, Code: code}
}

// openReceiver is a short way to write a receiver that is open.
func openReceiver(highest int, b impl.Buffer) impl.Receiver {
	return receiverOf(impl.RecvOpen, impl.NoFinal, highest, 0, b)
}

// invalidReceivers are receivers that are not valid, each for another reason.
func invalidReceivers() []impl.Receiver {
	none, ab := bufferOf(0), bufferOf(0, chunk(0, "ab"))
	l := []impl.Receiver{
		// The zero value is open with the final size 0.
		{},
		receiverOf(-1, impl.NoFinal, 0, 0, none),
		receiverOf(impl.RecvResetRead+1, impl.NoFinal, 0, 0, none),
		receiverOf(math.MinInt, impl.NoFinal, 0, 0, none),
		receiverOf(math.MaxInt, impl.NoFinal, 0, 0, none),
		// Numbers out of range, for each state that allows all else.
		openReceiver(-1, none),
		openReceiver(math.MinInt, none),
		openReceiver(impl.MaxQuic+1, none),
		openReceiver(math.MaxInt, none),
		receiverOf(impl.RecvSized, impl.MaxQuic+1, 5, 0, none),
		receiverOf(impl.RecvSized, -2, -2, 0, none),
		receiverOf(impl.RecvSized, -2, 5, 0, none),
		receiverOf(impl.RecvSized, math.MinInt, 5, 0, none),
		receiverOf(impl.RecvSized, math.MaxInt, 5, 0, none),
		receiverOf(impl.RecvReset, impl.MaxQuic+1, impl.MaxQuic+1, 0, none),
		receiverOf(impl.RecvReset, -2, -2, 0, none),
		receiverOf(impl.RecvReset, impl.NoFinal, impl.NoFinal, 0, none),
		receiverOf(impl.RecvReset, 5, 5, -1, none),
		receiverOf(impl.RecvReset, 5, 5, math.MinInt, none),
		receiverOf(impl.RecvReset, 5, 5, impl.MaxQuic+1, none),
		receiverOf(impl.RecvResetRead, 5, 5, math.MaxInt, none),
		// The places contradict one another.
		openReceiver(1, ab),
		openReceiver(6, bufferOf(7)),
		openReceiver(7, bufferOf(0, chunk(0, "ab"), chunk(5, "xyz"))),
		receiverOf(impl.RecvSized, 6, 7, 0, none),
		receiverOf(impl.RecvAll, 2, 3, 0, ab),
		receiverOf(impl.RecvAll, 2, 3, 0, bufferOf(0, chunk(0, "abc"))),
		receiverOf(impl.RecvReset, 6, 6, 0, bufferOf(7)),
		// What each state demands.
		receiverOf(impl.RecvOpen, 5, 5, 0, none),
		receiverOf(impl.RecvOpen, impl.NoFinal, 5, 1, none),
		receiverOf(impl.RecvSized, impl.NoFinal, 5, 0, none),
		receiverOf(impl.RecvSized, 2, 2, 0, ab),
		receiverOf(impl.RecvSized, 0, 0, 0, none),
		receiverOf(impl.RecvSized, 5, 5, 1, ab),
		receiverOf(impl.RecvAll, impl.NoFinal, 2, 0, ab),
		receiverOf(impl.RecvAll, 3, 2, 0, ab),
		receiverOf(impl.RecvAll, 3, 3, 0, bufferOf(0, chunk(0, "a"), chunk(2, "c"))),
		receiverOf(impl.RecvAll, 2, 2, 1, ab),
		receiverOf(impl.RecvRead, 2, 2, 0, ab),
		receiverOf(impl.RecvRead, 2, 2, 0, none),
		receiverOf(impl.RecvRead, 2, 2, 1, bufferOf(2)),
		receiverOf(impl.RecvRead, impl.NoFinal, 2, 0, bufferOf(2)),
		receiverOf(impl.RecvReset, 3, 2, 0, none),
		receiverOf(impl.RecvReset, impl.NoFinal, 2, 0, none),
		receiverOf(impl.RecvReset, 2, 2, 0, ab),
		receiverOf(impl.RecvResetRead, 3, 2, 0, none),
		receiverOf(impl.RecvResetRead, 2, 2, 0, ab),
	}
	for _, b := range invalidBuffers() {
		l = append(l, openReceiver(impl.MaxQuic, b), receiverOf(impl.RecvSized, impl.MaxQuic, impl.MaxQuic, 0, b))
		l = append(l, receiverOf(impl.RecvAll, b.Next, b.Next, 0, b), receiverOf(impl.RecvReset, impl.MaxQuic, impl.MaxQuic, 0, b))
	}
	return l
}

// sameReceiver compares receivers without the program.
func sameReceiver(a impl.Receiver, b impl.Receiver) bool {
	return a.State == b.State && sameBuffer(a.Buffer, b.Buffer) && a.Final == b.Final && a.Highest == b.Highest && a.Code == b.Code
}

// guardedReceiver is guardedBuffer for the buffer of a receiver.
func guardedReceiver(r impl.Receiver) (impl.Receiver, func() bool) {
	b, changed := guardedBuffer(r.Buffer)
	r.Buffer = b
	return r, changed
}

// checkData reports a ReceiveData that does not give what is wanted, changes its argument, or shares memory with it.
func checkData(t *testing.T, r impl.Receiver, offset int, data string, fin bool, want impl.Receiver, wantErr int) {
	t.Helper()
	r, changed := guardedReceiver(r)
	got, err := impl.ReceiveData(r, offset, data, fin)
	if err != wantErr || !sameReceiver(got, want) {
		t.Errorf("ReceiveData(%v, %d, %q, %v) = %v, %d, want %v, %d", r, offset, data, fin, got, err, want, wantErr)
	}
	scribbleChunks(got.Buffer.Chunks)
	if changed() {
		t.Errorf("ReceiveData(%v, %d, %q, %v) changes its argument or shares its memory", r, offset, data, fin)
	}
}

// checkReset is checkData for ReceiveReset.
func checkReset(t *testing.T, r impl.Receiver, code int, final int, want impl.Receiver, wantErr int) {
	t.Helper()
	r, changed := guardedReceiver(r)
	got, err := impl.ReceiveReset(r, code, final)
	if err != wantErr || !sameReceiver(got, want) {
		t.Errorf("ReceiveReset(%v, %d, %d) = %v, %d, want %v, %d", r, code, final, got, err, want, wantErr)
	}
	scribbleChunks(got.Buffer.Chunks)
	if changed() {
		t.Errorf("ReceiveReset(%v, %d, %d) changes its argument or shares its memory", r, code, final)
	}
}

// checkRead is checkData for ReadReceiver.
func checkRead(t *testing.T, r impl.Receiver, most int, taken string, want impl.Receiver) {
	t.Helper()
	r, changed := guardedReceiver(r)
	gotTaken, got := impl.ReadReceiver(r, most)
	if gotTaken != taken || !sameReceiver(got, want) {
		t.Errorf("ReadReceiver(%v, %d) = %q and %v, want %q and %v", r, most, gotTaken, got, taken, want)
	}
	scribbleChunks(got.Buffer.Chunks)
	if changed() {
		t.Errorf("ReadReceiver(%v, %d) changes its argument or shares its memory", r, most)
	}
}

func TestNewReceiver(t *testing.T) {
	r := impl.NewReceiver()
	if !sameReceiver(r, openReceiver(0, bufferOf(0))) || !impl.IsReceiver(r) || impl.IsReceived(r) {
		t.Errorf("NewReceiver() = %v", r)
	}
}

// Every combination of small numbers, valid or not.
func TestIsReceiverSmall(t *testing.T) {
	for _, base := range recvBases {
		valid := map[int]int{}
		everySmallReceiver(base, func(m recvModel) {
			r, changed := guardedReceiver(m.receiver())
			want := m.isValid()
			if got := impl.IsReceiver(r); got != want || changed() {
				t.Errorf("IsReceiver(%v) = %v", r, got)
			}
			isRead := m.State == impl.RecvRead || m.State == impl.RecvResetRead
			if got := impl.IsReceived(r); got != (want && isRead) {
				t.Errorf("IsReceived(%v) = %v", r, got)
			}
			if want {
				valid[m.State]++
			}
		})
		for _, s := range recvStates {
			if valid[s.state] < 8 {
				t.Errorf("at %d, only %d valid receivers were tried in the state %s", base, valid[s.state], s.name)
			}
		}
	}
}

func TestIsReceiverLimits(t *testing.T) {
	last := bufferOf(impl.MaxQuic-1, chunk(impl.MaxQuic-1, "z"))
	valid := []impl.Receiver{
		openReceiver(impl.MaxQuic, impl.Buffer{}),
		openReceiver(impl.MaxQuic, last),
		openReceiver(impl.MaxQuic, bufferOf(impl.MaxQuic)),
		receiverOf(impl.RecvSized, impl.MaxQuic, 0, 0, impl.Buffer{}),
		receiverOf(impl.RecvSized, impl.MaxQuic, impl.MaxQuic, 0, bufferOf(0, last.Chunks...)),
		receiverOf(impl.RecvAll, 0, 0, 0, impl.Buffer{}),
		receiverOf(impl.RecvAll, impl.MaxQuic, impl.MaxQuic, 0, last),
		receiverOf(impl.RecvAll, impl.MaxQuic, impl.MaxQuic, 0, bufferOf(impl.MaxQuic)),
		receiverOf(impl.RecvRead, 0, 0, 0, impl.Buffer{}),
		receiverOf(impl.RecvRead, impl.MaxQuic, impl.MaxQuic, 0, bufferOf(impl.MaxQuic)),
		receiverOf(impl.RecvReset, 0, 0, 0, impl.Buffer{}),
		receiverOf(impl.RecvReset, impl.MaxQuic, impl.MaxQuic, impl.MaxQuic, impl.Buffer{}),
		receiverOf(impl.RecvResetRead, impl.MaxQuic, impl.MaxQuic, impl.MaxQuic, bufferOf(impl.MaxQuic)),
	}
	for _, r := range valid {
		if !impl.IsReceiver(r) {
			t.Errorf("IsReceiver(%v) = false", r)
		}
	}
	for _, r := range invalidReceivers() {
		r, changed := guardedReceiver(r)
		if impl.IsReceiver(r) || impl.IsReceived(r) || changed() {
			t.Errorf("IsReceiver(%v) = %v, IsReceived = %v", r, impl.IsReceiver(r), impl.IsReceived(r))
		}
	}
}

func TestNewBytesSmall(t *testing.T) {
	for _, base := range recvBases {
		everyValidReceiver(base, func(m recvModel) {
			r, changed := guardedReceiver(m.receiver())
			for end := base - 2; end <= base+smallPlaces+2; end++ {
				want := 0
				if end > m.Highest && end <= impl.MaxQuic {
					want = end - m.Highest
				}
				if got := impl.NewBytes(r, end); got != want || changed() {
					t.Errorf("NewBytes(%v, %d) = %d, want %d", r, end, got, want)
				}
			}
		})
	}
}

func TestNewBytesLimits(t *testing.T) {
	r := impl.NewReceiver()
	for _, end := range append(edgeInts(), impl.MaxQuic-1, impl.MaxQuic, impl.MaxQuic+1) {
		want := end
		if end < 0 || end > impl.MaxQuic {
			want = 0
		}
		if got := impl.NewBytes(r, end); got != want {
			t.Errorf("NewBytes(%v, %d) = %d, want %d", r, end, got, want)
		}
		for _, r := range invalidReceivers() {
			if got := impl.NewBytes(r, end); got != 0 {
				t.Errorf("NewBytes(%v, %d) = %d", r, end, got)
			}
		}
	}
}

// Every small receiver, with data at every place and of every length, with and without fin.
func TestReceiveDataSmall(t *testing.T) {
	for _, base := range recvBases {
		everyValidReceiver(base, func(m recvModel) {
			r := m.receiver()
			for index := range smallPlaces + 1 {
				for size := range smallPlaces - index + 1 {
					data := "abcdefg"[index:][:size]
					for _, fin := range []bool{false, true} {
						want, err := m.receive(index, data, fin)
						checkData(t, r, base+index, data, fin, want.receiver(), err)
						if !want.isValid() {
							t.Fatalf("the model of %v becomes %v, which is not valid", r, want.receiver())
						}
					}
				}
			}
			if base+smallPlaces == impl.MaxQuic {
				for index := range smallPlaces + 2 {
					checkData(t, r, base+index, "abcdefgh"[index:], index%2 == 0, r, impl.ErrEncoding)
				}
				checkData(t, r, impl.MaxQuic+1, "", false, r, impl.ErrEncoding)
			}
		})
	}
}

// Every small receiver with resets at every final size.
func TestReceiveResetSmall(t *testing.T) {
	for _, base := range recvBases {
		everyValidReceiver(base, func(m recvModel) {
			r := m.receiver()
			for final := max(0, base-1); final <= min(impl.MaxQuic, base+smallPlaces+2); final++ {
				for _, code := range []int{0, 7, impl.MaxQuic} {
					want, err := m.reset(code, final)
					checkReset(t, r, code, final, want.receiver(), err)
				}
			}
		})
	}
}

// Every small receiver with reads of every length.
func TestReadReceiverSmall(t *testing.T) {
	mosts := []int{math.MinInt, -1, math.MaxInt}
	for most := range smallPlaces + 2 {
		mosts = append(mosts, most)
	}
	for _, base := range recvBases {
		everyValidReceiver(base, func(m recvModel) {
			for _, most := range mosts {
				taken, want := m.read(most)
				checkRead(t, m.receiver(), most, taken, want.receiver())
			}
		})
	}
}

// Once the final size is known, nothing changes it, and everything that contradicts it is refused: data that goes beyond it, another end, and a reset at another place.
func TestFinalSizeNeverChanges(t *testing.T) {
	for _, base := range recvBases {
		everyValidReceiver(base, func(m recvModel) {
			if m.Final == impl.NoFinal {
				return
			}
			r := m.receiver()
			check := func(what string, end int, got impl.Receiver, err int, contradicts bool) {
				if got.Final != m.Final || got.Highest > m.Final || (err == impl.ErrFinal) != contradicts {
					t.Errorf("%s of %v up to %d: %v and the error %d", what, r, end, got, err)
				}
			}
			for end := base; end <= base+smallPlaces; end++ {
				got, err := impl.ReceiveData(r, end, "", false)
				check("data", end, got, err, end > m.Final)
				got, err = impl.ReceiveData(r, base, "abcdefg"[:end-base], false)
				check("data", end, got, err, end > m.Final)
				got, err = impl.ReceiveData(r, end, "", true)
				check("an end", end, got, err, end != m.Final || end < m.Highest)
				got, err = impl.ReceiveReset(r, 1, end)
				check("a reset", end, got, err, end != m.Final || end < m.Highest)
			}
			_, got := impl.ReadReceiver(r, 3)
			check("a read", r.Buffer.Next, got, impl.ErrNone, false)
		})
	}
}

// The edge case of the chapter: the end of a stream without data.
func TestEndWithoutData(t *testing.T) {
	empty := receiverOf(impl.RecvAll, 0, 0, 0, bufferOf(0))
	checkData(t, impl.NewReceiver(), 0, "", true, empty, impl.ErrNone)
	// It is still to be read, and any read reads it, also one of no bytes.
	if impl.IsReceived(empty) || !impl.IsReceiver(empty) {
		t.Errorf("IsReceived(%v) = %v, IsReceiver = %v", empty, impl.IsReceived(empty), impl.IsReceiver(empty))
	}
	over := receiverOf(impl.RecvRead, 0, 0, 0, bufferOf(0))
	for _, most := range []int{math.MinInt, -1, 0, 1, 9, math.MaxInt} {
		checkRead(t, empty, most, "", over)
		checkRead(t, over, most, "", over)
	}
	if !impl.IsReceived(over) {
		t.Errorf("IsReceived(%v) = false", over)
	}
	// The same end again is no contradiction, and everything else is one.
	for _, r := range []impl.Receiver{empty, over} {
		checkData(t, r, 0, "", true, r, impl.ErrNone)
		checkData(t, r, 0, "", false, r, impl.ErrNone)
		checkData(t, r, 0, "a", false, r, impl.ErrFinal)
		checkData(t, r, 0, "a", true, r, impl.ErrFinal)
		checkData(t, r, 1, "", false, r, impl.ErrFinal)
		checkData(t, r, 1, "", true, r, impl.ErrFinal)
		checkReset(t, r, 7, 0, r, impl.ErrNone)
		checkReset(t, r, 7, 1, r, impl.ErrFinal)
	}
}

// An end without data behind data: the data came and was read, or not, or is still to come.
func TestEndWithoutDataBehindData(t *testing.T) {
	abc := bufferOf(0, chunk(0, "abc"))
	all := receiverOf(impl.RecvAll, 3, 3, 0, abc)
	checkData(t, openReceiver(3, abc), 3, "", true, all, impl.ErrNone)
	checkData(t, openReceiver(3, bufferOf(2, chunk(2, "c"))), 3, "", true, receiverOf(impl.RecvAll, 3, 3, 0, bufferOf(2, chunk(2, "c"))), impl.ErrNone)
	checkRead(t, all, 2, "ab", receiverOf(impl.RecvAll, 3, 3, 0, bufferOf(2, chunk(2, "c"))))
	checkRead(t, all, 3, "abc", receiverOf(impl.RecvRead, 3, 3, 0, bufferOf(3)))

	read := openReceiver(3, bufferOf(3))
	checkData(t, read, 3, "", true, receiverOf(impl.RecvAll, 3, 3, 0, bufferOf(3)), impl.ErrNone)
	checkRead(t, receiverOf(impl.RecvAll, 3, 3, 0, bufferOf(3)), 0, "", receiverOf(impl.RecvRead, 3, 3, 0, bufferOf(3)))

	early := receiverOf(impl.RecvSized, 3, 3, 0, bufferOf(0))
	checkData(t, impl.NewReceiver(), 3, "", true, early, impl.ErrNone)
	checkData(t, early, 0, "abc", false, all, impl.ErrNone)
	checkData(t, early, 1, "bc", true, receiverOf(impl.RecvSized, 3, 3, 0, bufferOf(0, chunk(1, "bc"))), impl.ErrNone)
	checkData(t, early, 1, "bcd", false, early, impl.ErrFinal)

	// An end before what came contradicts it; data before the end does not.
	for end := range 3 {
		checkData(t, openReceiver(3, abc), end, "", true, openReceiver(3, abc), impl.ErrFinal)
		checkData(t, read, end, "", true, read, impl.ErrFinal)
		checkData(t, early, end, "", false, early, impl.ErrNone)
	}

	// The greatest end of all.
	checkData(t, impl.NewReceiver(), impl.MaxQuic, "", true, receiverOf(impl.RecvSized, impl.MaxQuic, impl.MaxQuic, 0, bufferOf(0)), impl.ErrNone)
	checkData(t, openReceiver(impl.MaxQuic, bufferOf(impl.MaxQuic)), impl.MaxQuic, "", true, receiverOf(impl.RecvAll, impl.MaxQuic, impl.MaxQuic, 0, bufferOf(impl.MaxQuic)), impl.ErrNone)
}

// Data without bytes and without an end tells how far the stream goes at least.
func TestDataWithoutBytes(t *testing.T) {
	checkData(t, impl.NewReceiver(), 4, "", false, openReceiver(4, bufferOf(0)), impl.ErrNone)
	checkData(t, openReceiver(4, bufferOf(0)), 3, "abc", true, receiverOf(impl.RecvSized, 6, 6, 0, bufferOf(0, chunk(3, "abc"))), impl.ErrNone)
	checkData(t, openReceiver(4, bufferOf(0)), 0, "abc", true, openReceiver(4, bufferOf(0)), impl.ErrFinal)
	checkReset(t, openReceiver(4, bufferOf(0)), 1, 3, openReceiver(4, bufferOf(0)), impl.ErrFinal)
}

func TestReceiveInvalid(t *testing.T) {
	offsets := append(edgeInts(), 0, 1, 2, 3, impl.MaxQuic-3, impl.MaxQuic-2, impl.MaxQuic, impl.MaxQuic+1)
	for _, r := range invalidReceivers() {
		for _, n := range offsets {
			checkData(t, r, n, "", false, r, impl.ErrEncoding)
			checkData(t, r, n, "abc", true, r, impl.ErrEncoding)
			checkReset(t, r, 0, n, r, impl.ErrEncoding)
			checkReset(t, r, n, 5, r, impl.ErrEncoding)
		}
		for _, most := range []int{math.MinInt, -1, 0, 1, 9, math.MaxInt} {
			checkRead(t, r, most, "", r)
		}
	}
}

// Arguments out of range are refused in every state, and before a contradiction.
func TestReceiveOutOfRange(t *testing.T) {
	receivers := []impl.Receiver{
		impl.NewReceiver(),
		openReceiver(9, bufferOf(2, chunk(2, "cd"), chunk(6, "g"))),
		receiverOf(impl.RecvSized, 9, 8, 0, bufferOf(2, chunk(3, "de"))),
		receiverOf(impl.RecvAll, 4, 4, 0, bufferOf(2, chunk(2, "cd"))),
		receiverOf(impl.RecvRead, 4, 4, 0, bufferOf(4)),
		receiverOf(impl.RecvReset, 9, 9, 3, bufferOf(4)),
		receiverOf(impl.RecvResetRead, 9, 9, 3, bufferOf(4)),
	}
	for _, r := range receivers {
		for _, n := range []int{-1, -3, math.MinInt, math.MinInt + 1, impl.MaxQuic + 1, math.MaxInt - 2, math.MaxInt - 1, math.MaxInt} {
			checkReset(t, r, n, 9, r, impl.ErrEncoding)
			checkReset(t, r, n, n, r, impl.ErrEncoding)
			checkReset(t, r, 0, n, r, impl.ErrEncoding)
			for _, data := range []string{"", "a", "abc"} {
				checkData(t, r, n, data, false, r, impl.ErrEncoding)
				checkData(t, r, n, data, true, r, impl.ErrEncoding)
			}
		}
		for short := range 3 {
			checkData(t, r, impl.MaxQuic-short, "abc", false, r, impl.ErrEncoding)
			checkData(t, r, impl.MaxQuic-short, "abc", true, r, impl.ErrEncoding)
		}
	}
	last := bufferOf(0, chunk(impl.MaxQuic-3, "abc"))
	checkData(t, receivers[0], impl.MaxQuic-3, "abc", false, openReceiver(impl.MaxQuic, last), impl.ErrNone)
	checkData(t, receivers[0], impl.MaxQuic-3, "abc", true, receiverOf(impl.RecvSized, impl.MaxQuic, impl.MaxQuic, 0, last), impl.ErrNone)
	checkReset(t, receivers[1], impl.MaxQuic, impl.MaxQuic, receiverOf(impl.RecvReset, impl.MaxQuic, impl.MaxQuic, impl.MaxQuic, bufferOf(2)), impl.ErrNone)
}

func TestResetExamples(t *testing.T) {
	b := bufferOf(2, chunk(2, "cd"), chunk(6, "g"))
	// The bytes that were not read are given up, and the place to read stays.
	reset := receiverOf(impl.RecvReset, 9, 9, 5, bufferOf(2))
	checkReset(t, openReceiver(7, b), 5, 9, reset, impl.ErrNone)
	checkReset(t, openReceiver(7, b), 5, 7, receiverOf(impl.RecvReset, 7, 7, 5, bufferOf(2)), impl.ErrNone)
	checkReset(t, openReceiver(7, b), 5, 6, openReceiver(7, b), impl.ErrFinal)
	checkReset(t, receiverOf(impl.RecvSized, 9, 7, 0, b), 5, 9, reset, impl.ErrNone)
	for _, final := range []int{7, 8, 10} {
		checkReset(t, receiverOf(impl.RecvSized, 9, 7, 0, b), 5, final, receiverOf(impl.RecvSized, 9, 7, 0, b), impl.ErrFinal)
	}
	checkReset(t, impl.NewReceiver(), 0, 0, receiverOf(impl.RecvReset, 0, 0, 0, bufferOf(0)), impl.ErrNone)

	// Neither data nor another reset changes anything then, and the first code stays.
	over := receiverOf(impl.RecvResetRead, 9, 9, 5, bufferOf(2))
	for _, r := range []impl.Receiver{reset, over} {
		checkData(t, r, 2, "cdefghi", true, r, impl.ErrNone)
		checkData(t, r, 2, "cd", false, r, impl.ErrNone)
		checkData(t, r, 2, "cd", true, r, impl.ErrFinal)
		checkData(t, r, 9, "j", false, r, impl.ErrFinal)
		checkReset(t, r, 6, 9, r, impl.ErrNone)
		checkReset(t, r, 6, 8, r, impl.ErrFinal)
		checkReset(t, r, 6, 10, r, impl.ErrFinal)
	}
	for _, most := range []int{math.MinInt, -1, 0, 1, 9, math.MaxInt} {
		checkRead(t, reset, most, "", over)
		checkRead(t, over, most, "", over)
	}
	if impl.IsReceived(reset) || !impl.IsReceived(over) {
		t.Errorf("IsReceived = %v and %v", impl.IsReceived(reset), impl.IsReceived(over))
	}

	// A stream of which all data came is not reset any more.
	all := receiverOf(impl.RecvAll, 4, 4, 0, bufferOf(2, chunk(2, "cd")))
	read := receiverOf(impl.RecvRead, 4, 4, 0, bufferOf(4))
	for _, r := range []impl.Receiver{all, read} {
		checkReset(t, r, 5, 4, r, impl.ErrNone)
		checkReset(t, r, 5, 3, r, impl.ErrFinal)
		checkReset(t, r, 5, 5, r, impl.ErrFinal)
	}
}

func TestRecvName(t *testing.T) {
	for i, s := range recvStates {
		if got := impl.RecvName(i); i != s.state || got != s.name {
			t.Errorf("RecvName(%d) = %q, want %q for %d", i, got, s.name, s.state)
		}
	}
	for _, state := range append(edgeInts(), len(recvStates), len(recvStates)+1) {
		if got := impl.RecvName(state); got != "" && (state < 0 || state >= len(recvStates)) {
			t.Errorf("RecvName(%d) = %q", state, got)
		}
	}
}

func TestReceiverConstants(t *testing.T) {
	got := []int{impl.ErrNone, impl.ErrFlow, impl.ErrLimit, impl.ErrState, impl.ErrFinal, impl.ErrEncoding, impl.NoFinal}
	if !slices.Equal(got, []int{0, 3, 4, 5, 6, 7, -1}) {
		t.Errorf("the constants are %v", got)
	}
}

func TestEqualReceivers(t *testing.T) {
	b := bufferOf(2, chunk(2, "cd"), chunk(6, "g"))
	receivers := []impl.Receiver{
		{},
		impl.NewReceiver(),
		receiverOf(impl.RecvSized, 9, 8, 7, b),
		receiverOf(impl.RecvAll, 9, 8, 7, b),
		receiverOf(impl.RecvSized, 8, 8, 7, b),
		receiverOf(impl.RecvSized, 9, 9, 7, b),
		receiverOf(impl.RecvSized, 9, 8, 6, b),
		receiverOf(impl.RecvSized, 9, 8, 7, bufferOf(2)),
		receiverOf(impl.RecvSized, 9, 8, 7, bufferOf(1, b.Chunks...)),
		receiverOf(impl.RecvSized, 9, 8, 7, bufferOf(2, chunk(2, "cd"), chunk(6, "h"))),
		receiverOf(impl.RecvSized, 9, 8, 7, bufferOf(2, chunk(2, "cd"), chunk(7, "g"))),
		receiverOf(impl.RecvSized, 8, 9, 7, b),
		receiverOf(impl.RecvSized, 7, 8, 9, b),
		receiverOf(math.MinInt, math.MaxInt, math.MinInt, math.MaxInt, bufferOf(-1, chunk(-1, ""))),
	}
	for i, x := range receivers {
		for j, y := range receivers {
			x, changedX := guardedReceiver(x)
			y, changedY := guardedReceiver(y)
			if got := impl.EqualReceivers(x, y); got != (i == j) || changedX() || changedY() {
				t.Errorf("EqualReceivers(%v, %v) = %v", x, y, got)
			}
		}
	}
	empty := impl.NewReceiver()
	empty.Buffer.Chunks = []impl.Chunk{}
	if !impl.EqualReceivers(impl.NewReceiver(), empty) {
		t.Error("a receiver with a nil list equals one with an empty list")
	}
}

// A message comes in pieces of all sizes that are reordered, repeated and sometimes contradicted, while it is read: it is read whole, and then its end, and the final size stays what it was when it became known.
func TestReceiverHistory(t *testing.T) {
	const size = 120
	refused, sized := 0, 0
	for seed := range uint32(40) {
		draw := seed
		below := func(n int) int {
			draw = draw*1664525 + 1013904223
			return int(draw>>8) % n
		}
		message := make([]byte, size)
		for i := range message {
			message[i] = byte(below(256))
		}
		r := impl.NewReceiver()
		known := impl.NoFinal
		var read strings.Builder
		for step := 0; !impl.IsReceived(r); step++ {
			if step > 100000 {
				t.Fatalf("the stream does not end: %v", r)
			}
			low := below(size + 1)
			high := low + below(min(9, size-low+1))
			fin := high == size && below(2) == 0
			next, err := impl.ReceiveData(r, low, string(message[low:high]), fin)
			if err != impl.ErrNone || next.Highest != max(r.Highest, high) || impl.NewBytes(r, high) != next.Highest-r.Highest {
				t.Fatalf("ReceiveData(%v, %d, .., %v) = %v, %d", r, low, fin, next, err)
			}
			if fin {
				known = size
			}
			if next.Final != known || !impl.IsReceiver(next) {
				t.Fatalf("the final size of %v was %d", next, known)
			}
			r = next
			end := r.Highest + below(3) - 1
			if end >= 0 && (end < r.Highest || known != impl.NoFinal && end != known) {
				checkData(t, r, end, "", true, r, impl.ErrFinal)
				checkReset(t, r, 1, end, r, impl.ErrFinal)
				refused++
			}
			if known != impl.NoFinal {
				checkData(t, r, known, "x", false, r, impl.ErrFinal)
				sized++
			}
			data, rest := impl.ReadReceiver(r, below(7)-1)
			read.WriteString(data)
			r = rest
		}
		if read.String() != string(message) || r.State != impl.RecvRead || r.Final != size {
			t.Errorf("%q was read of %q, and the receiver is %v", read.String(), message, r)
		}
	}
	if refused == 0 || sized == 0 {
		t.Errorf("%d ends were refused, and the final size was known at %d steps", refused, sized)
	}
}
