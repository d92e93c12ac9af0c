package tests

import (
	"math"
	"slices"
	"testing"

	"loop.example/g01633/impl"
)

// ringSizes are the sizes that a ring may have.
var ringSizes = []int{1, 2, 4, 8, 16, 32, 64}

// ringModel is the model of a ring: the bytes that it holds, from a place on, and what the cells have that hold none.
type ringModel struct {
	base int
	held string
	idle []int
}

// emptyModel returns the model of an empty ring.
func emptyModel(size int) ringModel {
	return ringModel{idle: make([]int, size)}
}

// end returns the place behind the last byte.
func (m ringModel) end() int {
	return m.base + len(m.held)
}

// room returns how many bytes can be written.
func (m ringModel) room() int {
	room := 0
	for len(m.held)+room < len(m.idle) && m.end()+room < impl.MaxQuic {
		room++
	}
	return room
}

// ring returns the ring of the model.
func (m ringModel) ring() impl.Ring {
	cells := slices.Clone(m.idle)
	for i := range len(m.held) {
		cells[(m.base+i)%len(cells)] = int(m.held[i])
	}
	return impl.Ring{Size: len(cells), Base: m.base, End: m.end(), Cells: cells}
}

// write is WriteRing.
func (m ringModel) write(data string) (ringModel, int) {
	count := min(m.room(), len(data))
	m.held += data[:count]
	return m, count
}

// drop is DropRing of the first count bytes.
func (m ringModel) drop(count int) ringModel {
	m.idle = slices.Clone(m.idle)
	for range count {
		m.idle[m.base%len(m.idle)] = 0
		m.base++
		m.held = m.held[1:]
	}
	return m
}

// everySmallRing calls f for the rings of the sizes up to 8 that hold each number of bytes, from each of the first places on and from the last ones, with cells that hold none and are 0 or not.
func everySmallRing(f func(m ringModel)) {
	for _, size := range ringSizes[:4] {
		var bases []int
		for d := range 2*size + 1 {
			bases = append(bases, d, 1000000007+d, impl.MaxQuic-d)
		}
		for _, base := range bases {
			for held := 0; held <= size && base+held <= impl.MaxQuic; held++ {
				f(ringModel{base, "\xffB\x00D\x80FGH"[:held], make([]int, size)})
				f(ringModel{base, "\xffB\x00D\x80FGH"[:held], slices.Repeat([]int{238}, size)})
			}
		}
	}
}

// ringOf is a short way to write a ring with the size of its cells.
func ringOf(base int, end int, cells ...int) impl.Ring {
	return impl.Ring{Size: len(cells), Base: base, End: end, Cells: cells}
}

// sizedRing is a short way to write an empty ring whose size need not be the number of its cells.
func sizedRing(size int, count int) impl.Ring {
	return impl.Ring{Size: size, Cells: make([]int, count)}
}

// invalidRings are rings that are not valid, each for another reason.
func invalidRings() []impl.Ring {
	l := []impl.Ring{
		// The zero value has the size 0.
		{},
		// Cells that are no bytes, held or not.
		ringOf(0, 0, 256),
		ringOf(0, 1, 256),
		ringOf(0, 0, -1),
		ringOf(0, 1, 97, 256),
		ringOf(0, 2, 97, 256),
		ringOf(0, 2, -1, 98, 0, 0),
		ringOf(2, 4, 0, 0, 0, math.MaxInt),
		ringOf(2, 4, 0, math.MinInt, 0, 0),
		ringOf(0, 4, 97, 98, 99, 256+97),
		// Places out of range.
		ringOf(-1, -1, 0, 0),
		ringOf(-1, 0, 0, 0),
		ringOf(-1, 1, 97, 98),
		ringOf(-2, 0, 97, 98),
		ringOf(math.MinInt, math.MinInt, 0, 0),
		ringOf(math.MinInt, 0, 0, 0),
		ringOf(math.MinInt, math.MaxInt, 0, 0),
		ringOf(impl.MaxQuic, impl.MaxQuic+1, 97, 98),
		ringOf(impl.MaxQuic-1, impl.MaxQuic+1, 97, 98),
		ringOf(impl.MaxQuic+1, impl.MaxQuic+1, 0, 0),
		ringOf(math.MaxInt, math.MaxInt, 0, 0),
		ringOf(math.MaxInt-1, math.MaxInt, 97, 98),
		// More bytes than cells.
		ringOf(0, 2, 97),
		ringOf(0, 3, 97, 98),
		ringOf(7, 12, 97, 98, 99, 100),
		ringOf(0, impl.MaxQuic, 97, 98),
		ringOf(0, math.MaxInt, 97, 98),
		// The end before the beginning, also by more than an int can tell.
		ringOf(1, 0, 0, 0),
		ringOf(2, 1, 97, 98),
		ringOf(4, 0, 97, 98, 99, 100),
		ringOf(0, -1, 97, 98),
		ringOf(0, math.MinInt, 97, 98),
		ringOf(1, math.MinInt, 97, 98),
		ringOf(math.MaxInt, math.MinInt, 97, 98),
		ringOf(math.MaxInt, math.MinInt+1, 97, 98),
		ringOf(impl.MaxQuic, impl.MaxQuic-1, 97, 98),
		// Another number of cells than the size.
		sizedRing(1, 0),
		sizedRing(4, 0),
		sizedRing(4, 3),
		sizedRing(4, 5),
		sizedRing(4, 8),
		sizedRing(64, 63),
		sizedRing(64, 65),
		sizedRing(64, 128),
		sizedRing(0, 1),
		sizedRing(-4, 4),
		sizedRing(128, 64),
	}
	for size := -5; size <= 300; size++ {
		if !slices.Contains(ringSizes, size) {
			l = append(l, sizedRing(size, max(0, size)))
		}
	}
	for _, size := range edgeInts() {
		if !slices.Contains(ringSizes, size) {
			l = append(l, sizedRing(size, 4))
		}
	}
	return l
}

// sameRing compares rings without the program.
func sameRing(a impl.Ring, b impl.Ring) bool {
	return a.Size == b.Size && a.Base == b.Base && a.End == b.End && slices.Equal(a.Cells, b.Cells)
}

// guardedRing returns a copy of a ring whose cells have unused capacity, and a function that reports whether a part of their memory was changed.
func guardedRing(r impl.Ring) (impl.Ring, func() bool) {
	whole := append(slices.Clone(r.Cells), slices.Repeat([]int{-77}, 70)...)
	before := slices.Clone(whole)
	r.Cells = whole[:len(r.Cells)]
	return r, func() bool { return !slices.Equal(whole, before) }
}

// scribbleCells overwrites all memory of a list of cells.
func scribbleCells(l []int) {
	l = l[:cap(l)]
	for i := range l {
		l[i] = -99
	}
}

// checkWrite reports a write that does not give the wanted ring and number, changes its argument, or shares memory with it.
func checkWrite(t *testing.T, r impl.Ring, data string, want impl.Ring, wantCount int) {
	t.Helper()
	r, changed := guardedRing(r)
	got, count := impl.WriteRing(r, data)
	if !sameRing(got, want) || count != wantCount {
		t.Errorf("WriteRing(%v, %q) = %v and %d, want %v and %d", r, data, got, count, want, wantCount)
	}
	scribbleCells(got.Cells)
	if changed() {
		t.Errorf("WriteRing(%v, %q) changes its argument or shares its memory", r, data)
	}
}

// checkPeek reports a peek that does not give the wanted bytes, or changes its argument.
func checkPeek(t *testing.T, r impl.Ring, offset int, n int, want string, wantOk bool) {
	t.Helper()
	r, changed := guardedRing(r)
	got, ok := impl.PeekRing(r, offset, n)
	if got != want || ok != wantOk || changed() {
		t.Errorf("PeekRing(%v, %d, %d) = %q and %v, want %q and %v", r, offset, n, got, ok, want, wantOk)
	}
}

// checkDrop is checkWrite for DropRing.
func checkDrop(t *testing.T, r impl.Ring, to int, want impl.Ring, wantOk bool) {
	t.Helper()
	r, changed := guardedRing(r)
	got, ok := impl.DropRing(r, to)
	if !sameRing(got, want) || ok != wantOk {
		t.Errorf("DropRing(%v, %d) = %v and %v, want %v and %v", r, to, got, ok, want, wantOk)
	}
	scribbleCells(got.Cells)
	if changed() {
		t.Errorf("DropRing(%v, %d) changes its argument or shares its memory", r, to)
	}
}

func TestNewRing(t *testing.T) {
	sizes := edgeInts()
	for size := -10; size <= 300; size++ {
		sizes = append(sizes, size)
	}
	for _, size := range sizes {
		got, ok := impl.NewRing(size)
		if !slices.Contains(ringSizes, size) {
			if !sameRing(got, impl.Ring{}) || ok {
				t.Errorf("NewRing(%d) = %v and %v", size, got, ok)
			}
			continue
		}
		if !sameRing(got, sizedRing(size, size)) || !ok || !impl.IsRing(got) || impl.RoomOf(got) != size {
			t.Errorf("NewRing(%d) = %v and %v", size, got, ok)
		}
		scribbleCells(got.Cells)
		if again, _ := impl.NewRing(size); !sameRing(again, sizedRing(size, size)) {
			t.Errorf("two results of NewRing(%d) share their memory", size)
		}
	}
}

func TestIsRingSmall(t *testing.T) {
	valid := 0
	for size := -1; size <= 9; size++ {
		for count := range 10 {
			for base := -2; base <= 10; base++ {
				for end := -2; end <= 20; end++ {
					r := impl.Ring{Size: size, Base: base, End: end, Cells: make([]int, count)}
					want := slices.Contains(ringSizes, size) && count == size && base >= 0 && end >= base && end <= base+size
					if got := impl.IsRing(r); got != want {
						t.Errorf("IsRing(%v) = %v", r, got)
					}
					if want {
						valid++
					}
				}
			}
		}
	}
	if valid != 11*(2+3+5+9) {
		t.Errorf("%d valid rings were tried", valid)
	}
	everySmallRing(func(m ringModel) {
		r, changed := guardedRing(m.ring())
		if !impl.IsRing(r) || changed() {
			t.Errorf("IsRing(%v) = false", r)
		}
	})
}

func TestIsRingLimits(t *testing.T) {
	for _, size := range ringSizes {
		for cell := range size {
			for value := -2; value <= 257; value++ {
				r := sizedRing(size, size)
				r.Cells[cell] = value
				if got := impl.IsRing(r); got != (value >= 0 && value <= 255) {
					t.Errorf("IsRing(%v) = %v", r, got)
				}
			}
		}
	}
	for _, r := range []impl.Ring{
		ringOf(impl.MaxQuic, impl.MaxQuic, 0),
		ringOf(impl.MaxQuic-1, impl.MaxQuic, 97),
		ringOf(impl.MaxQuic-2, impl.MaxQuic, 97, 98),
		{Size: 64, Base: impl.MaxQuic - 1, End: impl.MaxQuic, Cells: make([]int, 64)},
		{Size: 64, Base: 100, End: 164, Cells: slices.Repeat([]int{255}, 64)},
	} {
		if !impl.IsRing(r) {
			t.Errorf("IsRing(%v) = false", r)
		}
	}
	for _, r := range invalidRings() {
		if impl.IsRing(r) {
			t.Errorf("IsRing(%v) = true", r)
		}
	}
}

func TestRoomOf(t *testing.T) {
	everySmallRing(func(m ringModel) {
		r, changed := guardedRing(m.ring())
		if got := impl.RoomOf(r); got != m.room() || changed() {
			t.Errorf("RoomOf(%v) = %d, want %d", r, got, m.room())
		}
	})
	for room := range 65 {
		r := sizedRing(64, 64)
		r.Base, r.End = impl.MaxQuic-room, impl.MaxQuic-room
		if got := impl.RoomOf(r); got != room {
			t.Errorf("RoomOf an empty ring is %d, %d before MaxQuic", got, room)
		}
	}
	for _, r := range invalidRings() {
		if got := impl.RoomOf(r); got != 0 {
			t.Errorf("RoomOf(%v) = %d", r, got)
		}
	}
}

// Every small ring, with data of every length, from the beginning to the end of the places.
func TestWriteRingSmall(t *testing.T) {
	everySmallRing(func(m ringModel) {
		for size := range len(m.idle) + 3 {
			data := "\x00b\xfed\x7ffghij"[:size]
			want, count := m.write(data)
			checkWrite(t, m.ring(), data, want.ring(), count)
		}
	})
}

// A write that goes round goes on in the first cell.
func TestWriteRingRound(t *testing.T) {
	// The place 7 is the last cell.
	checkWrite(t, ringOf(6, 7, 0, 0, 'a', 0), "bcd", ringOf(6, 10, 'c', 'd', 'a', 'b'), 3)
	// The write begins in the first cell.
	checkWrite(t, ringOf(6, 8, 0, 0, 'a', 'b'), "cd", ringOf(6, 10, 'c', 'd', 'a', 'b'), 2)
	// What the cells that hold no byte have is written over.
	checkWrite(t, ringOf(6, 7, 1, 2, 'a', 4), "bcd", ringOf(6, 10, 'c', 'd', 'a', 'b'), 3)
	checkWrite(t, ringOf(6, 7, 1, 2, 'a', 4), "bc", ringOf(6, 9, 'c', 2, 'a', 'b'), 2)
	// All cells, from each one on.
	checkWrite(t, ringOf(4, 4, 0, 0, 0, 0), "abcdef", ringOf(4, 8, 'a', 'b', 'c', 'd'), 4)
	checkWrite(t, ringOf(5, 5, 0, 0, 0, 0), "abcdef", ringOf(5, 9, 'd', 'a', 'b', 'c'), 4)
	checkWrite(t, ringOf(7, 7, 0, 0, 0, 0), "abcdef", ringOf(7, 11, 'b', 'c', 'd', 'a'), 4)
	// A second write that goes round, and what it gives back.
	r, _ := impl.NewRing(4)
	r, _ = impl.WriteRing(r, "abcd")
	r, _ = impl.DropRing(r, 3)
	r, _ = impl.WriteRing(r, "efg")
	checkPeek(t, r, 3, 4, "defg", true)
	r, _ = impl.DropRing(r, 6)
	checkWrite(t, r, "hijk", ringOf(6, 10, 'i', 'j', 'g', 'h'), 3)
	// One cell goes round with each byte.
	checkWrite(t, ringOf(9, 9, 0), "xy", ringOf(9, 10, 'x'), 1)
	checkWrite(t, ringOf(9, 10, 'x'), "y", ringOf(9, 10, 'x'), 0)
}

func TestWriteRingUnchanged(t *testing.T) {
	full := ringOf(5, 9, 'd', 'a', 'b', 'c')
	for _, r := range append(invalidRings(), full, ringOf(impl.MaxQuic, impl.MaxQuic, 7, 8), ringOf(impl.MaxQuic-1, impl.MaxQuic, 7, 8)) {
		checkWrite(t, r, "", r, 0)
		checkWrite(t, r, "x", r, 0)
		checkWrite(t, r, "abcdefghijkl", r, 0)
	}
	checkWrite(t, ringOf(5, 6, 0, 'a', 0, 0), "", ringOf(5, 6, 0, 'a', 0, 0), 0)
	// At the end of the places there is less room than cells.
	checkWrite(t, ringOf(impl.MaxQuic-1, impl.MaxQuic-1, 0, 0), "xy", ringOf(impl.MaxQuic-1, impl.MaxQuic, 'x', 0), 1)
}

// Every small ring, with all places in it and around it, and all numbers of bytes.
func TestPeekRingSmall(t *testing.T) {
	everySmallRing(func(m ringModel) {
		r, changed := guardedRing(m.ring())
		for at := -2; at <= len(m.held)+2; at++ {
			for n := -2; n <= len(m.idle)+2; n++ {
				want, wantOk := "", n >= 0 && at >= 0 && at+n <= len(m.held)
				if wantOk {
					want = m.held[at : at+n]
				}
				got, ok := impl.PeekRing(r, m.base+at, n)
				if got != want || ok != wantOk {
					t.Errorf("PeekRing(%v, %d, %d) = %q and %v, want %q and %v", r, m.base+at, n, got, ok, want, wantOk)
				}
			}
		}
		if changed() {
			t.Errorf("PeekRing(%v) changes its argument", r)
		}
	})
}

func TestPeekRingNothing(t *testing.T) {
	r := ringOf(5, 7, 0, 'a', 'b', 0)
	checkPeek(t, r, 5, 0, "", true)
	checkPeek(t, r, 7, 0, "", true)
	checkPeek(t, r, 4, 0, "", false)
	checkPeek(t, r, 8, 0, "", false)
	checkPeek(t, ringOf(5, 5, 0, 0, 0, 0), 5, 0, "", true)
	checkPeek(t, ringOf(5, 5, 0, 0, 0, 0), 4, 0, "", false)
	checkPeek(t, ringOf(5, 5, 0, 0, 0, 0), 6, 0, "", false)
	// Sums of a place and a number that would wrap around.
	for _, n := range append(edgeInts(), 3, 5) {
		if n < 0 || n > 2 {
			checkPeek(t, r, 5, n, "", false)
			checkPeek(t, r, 6, n, "", false)
			checkPeek(t, r, 7, n, "", false)
		}
		checkPeek(t, ringOf(impl.MaxQuic, impl.MaxQuic, 0), impl.MaxQuic, n, "", n == 0)
	}
	for _, offset := range edgeInts() {
		if offset < 5 || offset > 7 {
			checkPeek(t, r, offset, 0, "", false)
			checkPeek(t, r, offset, 1, "", false)
			checkPeek(t, r, offset, math.MaxInt, "", false)
			checkPeek(t, r, offset, math.MinInt, "", false)
		}
	}
	for _, r := range invalidRings() {
		for _, n := range []int{-1, 0, 1, 2, math.MaxInt} {
			checkPeek(t, r, r.Base, n, "", false)
			checkPeek(t, r, r.End, n, "", false)
			checkPeek(t, r, 0, n, "", false)
		}
	}
}

// Every small ring, with all places in it and around it.
func TestDropRingSmall(t *testing.T) {
	everySmallRing(func(m ringModel) {
		for count := -2; count <= len(m.idle)+2; count++ {
			if count < 0 || count > len(m.held) {
				checkDrop(t, m.ring(), m.base+count, m.ring(), false)
			} else {
				checkDrop(t, m.ring(), m.base+count, m.drop(count).ring(), true)
			}
		}
	})
}

func TestDropRingExamples(t *testing.T) {
	r := ringOf(6, 9, 'c', 2, 'a', 'b')
	checkDrop(t, r, 6, r, true)
	checkDrop(t, r, 7, ringOf(7, 9, 'c', 2, 0, 'b'), true)
	checkDrop(t, r, 8, ringOf(8, 9, 'c', 2, 0, 0), true)
	// The cell that holds no byte stays as it is.
	checkDrop(t, r, 9, ringOf(9, 9, 0, 2, 0, 0), true)
	checkDrop(t, r, 5, r, false)
	checkDrop(t, r, 10, r, false)
	checkDrop(t, ringOf(impl.MaxQuic-1, impl.MaxQuic, 'a', 0), impl.MaxQuic, ringOf(impl.MaxQuic, impl.MaxQuic, 0, 0), true)
	for _, to := range edgeInts() {
		if to < 6 || to > 9 {
			checkDrop(t, r, to, r, false)
		}
	}
	for _, r := range invalidRings() {
		for _, to := range []int{r.Base, r.End, 0, 1, -1, math.MinInt, math.MaxInt} {
			checkDrop(t, r, to, r, false)
		}
	}
}

func TestEqualRings(t *testing.T) {
	rings := []impl.Ring{
		{},
		ringOf(0, 0, 0),
		ringOf(0, 0, 0, 0),
		ringOf(2, 4, 97, 98),
		ringOf(3, 4, 97, 98),
		ringOf(2, 3, 97, 98),
		ringOf(2, 4, 98, 97),
		ringOf(2, 4, 97, 99),
		ringOf(2, 4, 96, 98),
		ringOf(2, 4, 97, 98, 0, 0),
		// The same bytes, one round later.
		ringOf(4, 6, 97, 98),
		// Rings that are not valid.
		{Size: 2},
		{Size: 2, Cells: []int{97}},
		{Size: 1, Cells: []int{97, 98}},
		{Size: 1, Base: 2, End: 4, Cells: []int{97, 98}},
		{Size: math.MinInt, Base: math.MaxInt, End: math.MinInt},
		{Size: math.MinInt, Base: math.MinInt, End: math.MaxInt},
		ringOf(2, 4, 97, 98+256),
		ringOf(2, 4, -1, 98),
		ringOf(2, 4, math.MaxInt, math.MinInt),
	}
	for i, a := range rings {
		for j, b := range rings {
			a, changedA := guardedRing(a)
			b, changedB := guardedRing(b)
			if got := impl.EqualRings(a, b); got != (i == j) || changedA() || changedB() {
				t.Errorf("EqualRings(%v, %v) = %v", a, b, got)
			}
		}
	}
	empty := impl.Ring{Cells: []int{}}
	if !impl.EqualRings(impl.Ring{}, empty) || !impl.EqualRings(empty, impl.Ring{}) {
		t.Error("a ring with a nil list equals one with an empty list")
	}
}

// checkHeld reports a ring that does not hold exactly these bytes from a place on.
func checkHeld(t *testing.T, r impl.Ring, base int, held string) {
	t.Helper()
	if r.Base != base || r.End != base+len(held) || !impl.IsRing(r) {
		t.Fatalf("%v does not hold %d bytes from %d on", r, len(held), base)
	}
	if got, ok := impl.PeekRing(r, base, len(held)); got != held || !ok {
		t.Fatalf("PeekRing(%v) = %q and %v, want %q", r, got, ok, held)
	}
}

// A ring of every size gives back what was written and not dropped, however often it goes round, and in pieces as well as whole.
func TestRingHistory(t *testing.T) {
	for _, size := range ringSizes {
		m := emptyModel(size)
		r, _ := impl.NewRing(size)
		written := ""
		draw := uint32(size)
		below := func(n int) int {
			draw = draw*1664525 + 1013904223
			return int(draw>>8) % n
		}
		for m.base < 50*size {
			data := make([]byte, below(size+2))
			for i := range data {
				data[i] = byte(below(256))
			}
			room := impl.RoomOf(r)
			next, count := impl.WriteRing(r, string(data))
			if count != min(room, len(data)) {
				t.Fatalf("WriteRing(%v, %q) writes %d bytes", r, data, count)
			}
			written += string(data[:count])
			m, _ = m.write(string(data))
			checkHeld(t, next, m.base, written[m.base:])
			if !sameRing(next, m.ring()) {
				t.Fatalf("WriteRing(%v, %q) = %v, want %v", r, data, next, m.ring())
			}
			at := below(len(m.held) + 1)
			n := below(len(m.held) - at + 1)
			checkPeek(t, next, m.base+at, n, written[m.base+at:][:n], true)
			m = m.drop(below(len(m.held) + 1))
			rest, ok := impl.DropRing(next, m.base)
			if !ok || !sameRing(rest, m.ring()) {
				t.Fatalf("DropRing(%v, %d) = %v and %v, want %v", next, m.base, rest, ok, m.ring())
			}
			checkHeld(t, rest, m.base, written[m.base:])
			r = rest
		}
	}
}

// Each byte comes back as it is, in each cell.
func TestRingEveryByte(t *testing.T) {
	for _, size := range ringSizes {
		r, _ := impl.NewRing(size)
		for n := range 256 * 3 {
			data := string([]byte{byte(n)})
			r, _ = impl.WriteRing(r, data)
			checkHeld(t, r, n, data)
			r, _ = impl.DropRing(r, n+1)
			checkHeld(t, r, n+1, "")
		}
		if !slices.Equal(r.Cells, make([]int, size)) {
			t.Errorf("all bytes were dropped, but the cells are %v", r.Cells)
		}
	}
}
