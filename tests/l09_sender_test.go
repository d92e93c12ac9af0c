package tests

import (
	"fmt"
	"math"
	"slices"
	"strings"
	"testing"

	"loop.example/g01633/impl"
)

// sendStates are the states with their names, in the order of the constants.
var sendStates = []struct {
	state int
	name  string
}{
	{impl.SendReady, "ready"},
	{impl.SendSome, "some"},
	{impl.SendAll, "all"},
	{impl.SendDone, "done"},
	{impl.SendReset, "reset"},
	{impl.SendResetDone, "resetdone"},
}

// Where a byte is that was written.
const (
	toSend = 'p'
	inAir  = 'f'
	acked  = 'a'
)

// sendModel is the model of a sender: the bytes that were written from the place base on, and for each of them the letter of the set in which it is. All bytes before base are acknowledged, unless there are no ranges. The ring and the ranges of the sender in it are not used.
type sendModel struct {
	size     int
	base     int
	text     string
	where    string
	noRanges bool
	impl.Sender
}

// end returns the place behind the last byte.
func (m sendModel) end() int {
	return m.base + len(m.where)
}

// missing returns the first place that is not acknowledged.
func (m sendModel) missing() int {
	if i := strings.IndexFunc(m.where, func(c rune) bool { return c != acked }); i >= 0 {
		return m.base + i
	}
	return m.end()
}

// letterAt returns the set in which the byte at a place is, or 0 if none was written there.
func (m sendModel) letterAt(place int) byte {
	if place < 0 || place >= m.end() {
		return 0
	}
	if place < m.base {
		return acked
	}
	return m.where[place-m.base]
}

// rangesWhere returns the ranges of the bytes in a set.
func (m sendModel) rangesWhere(letter byte) []impl.Range {
	var l []impl.Range
	if letter == acked && m.base > 0 && !m.noRanges {
		l = append(l, span(0, m.base))
	}
	for i := range len(m.where) {
		place := m.base + i
		if m.where[i] != letter {
			continue
		}
		if k := len(l) - 1; k >= 0 && l[k].High == place {
			l[k].High++
		} else {
			l = append(l, span(place, place+1))
		}
	}
	return l
}

// ring returns the ring of the model.
func (m sendModel) ring() impl.Ring {
	r := impl.Ring{Size: m.size, Base: m.missing(), End: m.end(), Cells: make([]int, m.size)}
	for place := r.Base; place < r.End; place++ {
		r.Cells[place%m.size] = int(m.text[place-m.base])
	}
	return r
}

// sender returns the sender of the model.
func (m sendModel) sender() impl.Sender {
	s := m.Sender
	s.Ring = m.ring()
	s.Pending = m.rangesWhere(toSend)
	s.Flight = m.rangesWhere(inAir)
	s.Acked = m.rangesWhere(acked)
	return s
}

// sentEnd returns the end of the last byte that must have been sent.
func (m sendModel) sentEnd() int {
	if i := strings.LastIndexFunc(m.where, func(c rune) bool { return c != toSend }); i >= 0 {
		return m.base + i + 1
	}
	return m.base
}

// follow returns the state that follows.
func (m sendModel) follow() int {
	switch m.Fin {
	case impl.FinAcked:
		if m.missing() == m.end() {
			return impl.SendDone
		}
		return impl.SendAll
	case impl.FinFlight:
		return impl.SendAll
	case impl.FinPending:
		if m.State == impl.SendAll {
			return impl.SendAll
		}
		if m.State == impl.SendSome {
			return impl.SendSome
		}
	}
	if m.Sent > 0 {
		return impl.SendSome
	}
	return impl.SendReady
}

// isValid reports whether the sender of the model, whose ring and ranges are valid, is.
func (m sendModel) isValid() bool {
	if m.Sent < 0 || m.Sent > m.end() || m.Fin < impl.FinNone || m.Fin > impl.FinAcked || m.Code < 0 || m.Code > impl.MaxQuic {
		return false
	}
	if m.State == impl.SendReset || m.State == impl.SendResetDone {
		hasRanges := m.where != "" || m.base > 0 && !m.noRanges
		return !hasRanges && m.Final == m.end() && m.Sent == m.end() && m.Fin == impl.FinNone
	}
	if m.noRanges && m.end() > 0 || m.Sent < m.sentEnd() || m.Code != 0 {
		return false
	}
	if m.Fin == impl.FinNone && m.Final != impl.NoFinal || m.Fin != impl.FinNone && m.Final != m.end() {
		return false
	}
	return m.State == m.follow()
}

// isSending reports whether the state is one of the first three.
func (m sendModel) isSending() bool {
	return m.State == impl.SendReady || m.State == impl.SendSome || m.State == impl.SendAll
}

// isOpen reports whether more can be written.
func (m sendModel) isOpen() bool {
	return (m.State == impl.SendReady || m.State == impl.SendSome) && m.Fin == impl.FinNone
}

// write is WriteSender.
func (m sendModel) write(data string) (sendModel, int) {
	if !m.isOpen() {
		return m, 0
	}
	count := 0
	for count < len(data) && m.end() < impl.MaxQuic && m.end()-m.missing() < m.size {
		m.text += data[count : count+1]
		m.where += string(rune(toSend))
		count++
	}
	return m, count
}

// finish is CloseSender.
func (m sendModel) finish() (sendModel, bool) {
	if !m.isOpen() {
		return m, false
	}
	m.Final, m.Fin = m.end(), impl.FinPending
	return m, true
}

// giveUp is ResetSender.
func (m sendModel) giveUp(code int) (sendModel, bool) {
	if !m.isSending() || code < 0 || code > impl.MaxQuic {
		return m, false
	}
	s := impl.Sender{State: impl.SendReset, Final: m.Sent, Sent: m.Sent, Code: code}
	return sendModel{size: m.size, base: m.Sent, noRanges: true, Sender: s}, true
}

// next is NextPiece.
func (m sendModel) next(most int, limit int) (impl.Piece, bool) {
	if !m.isSending() {
		return impl.Piece{}, false
	}
	i := strings.IndexByte(m.where, toSend)
	if i < 0 {
		if m.Fin == impl.FinPending {
			return impl.Piece{Offset: m.Final, Fin: true}, true
		}
		return impl.Piece{}, false
	}
	high := i
	for high < len(m.where) && m.where[high] == toSend && high-i < most && m.base+high < limit {
		high++
	}
	if high == i {
		return impl.Piece{}, false
	}
	fin := m.Fin == impl.FinPending && m.base+high == m.Final
	return impl.Piece{Offset: m.base + i, Data: m.text[i:high], Fin: fin}, true
}

// canBe reports whether a piece lies within what was written, and ends there if it has the end.
func (m sendModel) canBe(p impl.Piece) bool {
	if p.Offset < 0 || p.Offset > m.end() || m.end()-p.Offset < len(p.Data) {
		return false
	}
	return !p.Fin || m.Final != impl.NoFinal && p.Offset+len(p.Data) == m.Final
}

// move puts those bytes of a piece that are in one set into another one.
func (m sendModel) move(p impl.Piece, from byte, to byte) sendModel {
	where := []byte(m.where)
	for i := range len(p.Data) {
		if m.letterAt(p.Offset+i) == from {
			where[p.Offset+i-m.base] = to
		}
	}
	m.where = string(where)
	return m
}

// send is SendPiece.
func (m sendModel) send(p impl.Piece) (sendModel, bool) {
	if !m.isSending() || !m.canBe(p) || p.Fin && m.Fin != impl.FinPending || p.Data == "" && !p.Fin {
		return m, false
	}
	// Bytes that are all pending lie in one range, since nothing is between them.
	for i := range len(p.Data) {
		if m.letterAt(p.Offset+i) != toSend {
			return m, false
		}
	}
	m = m.move(p, toSend, inAir)
	m.Sent = max(m.Sent, p.Offset+len(p.Data))
	if p.Fin {
		m.Fin = impl.FinFlight
	}
	m.State = m.follow()
	return m, true
}

// report is AckPiece or LosePiece, after which the bytes are in the set to, and the end is fin.
func (m sendModel) report(p impl.Piece, to byte, fin int) sendModel {
	if !m.isSending() || !m.canBe(p) {
		return m
	}
	m = m.move(p, inAir, to)
	if p.Fin && m.Fin == impl.FinFlight {
		m.Fin = fin
	}
	m.State = m.follow()
	return m
}

// ack is AckPiece.
func (m sendModel) ack(p impl.Piece) sendModel {
	return m.report(p, acked, impl.FinAcked)
}

// lose is LosePiece.
func (m sendModel) lose(p impl.Piece) sendModel {
	return m.report(p, toSend, impl.FinPending)
}

// sendBases put the bytes at the beginning of the places, somewhere, and so that the fourth one is the last one before MaxQuic, or the second one.
var sendBases = []int{0, 1001, impl.MaxQuic - 4, impl.MaxQuic - 2}

// everyWhere calls f for all bytes up to a number, as far as they fit a ring and the places, in all sets.
func everyWhere(size int, base int, most int, f func(m sendModel)) {
	var extend func(where string)
	extend = func(where string) {
		m := sendModel{size: size, base: base, text: "\xffB\x00D"[:len(where)], where: where}
		if m.end()-m.missing() <= size {
			f(m)
		}
		if len(where) < most && base+len(where) < impl.MaxQuic {
			extend(where + "p")
			extend(where + "f")
			extend(where + "a")
		}
	}
	extend("")
}

// everySmallSender calls f for the valid senders with few bytes, in all states.
func everySmallSender(f func(m sendModel)) {
	try := func(m sendModel) {
		for _, s := range sendStates {
			for fin := impl.FinNone; fin <= impl.FinAcked; fin++ {
				m.State, m.Fin, m.Final = s.state, fin, m.end()
				if fin == impl.FinNone && !m.noRanges {
					m.Final = impl.NoFinal
				}
				for sent := m.base; sent <= m.end(); sent++ {
					if m.Sent = sent; m.isValid() {
						f(m)
					}
				}
			}
		}
	}
	for _, base := range sendBases {
		sizes, most := []int{4}, 3
		if base == 0 {
			sizes, most = []int{1, 2, 4}, 4
		}
		for _, size := range sizes {
			everyWhere(size, base, most, try)
			for code := range 2 {
				try(sendModel{size: size, base: base, noRanges: true, Sender: impl.Sender{Code: code * impl.MaxQuic}})
			}
		}
	}
}

// piecesNear calls f for all pieces from shortly before the bytes of a model to shortly behind them, with and without the end. Their bytes are others than those that were written.
func piecesNear(m sendModel, f func(p impl.Piece)) {
	for index := -2; index <= len(m.where)+2; index++ {
		for count := 0; count <= len(m.where)+2; count++ {
			f(impl.Piece{Offset: m.base + index, Data: "??????"[:count]})
			f(impl.Piece{Offset: m.base + index, Data: "??????"[:count], Fin: true})
		}
	}
}

// farPieces are pieces that lie nowhere within what was written, also where a sum would wrap around.
func farPieces() []impl.Piece {
	var l []impl.Piece
	for _, offset := range []int{-1, -3, math.MinInt, math.MinInt + 1, impl.MaxQuic, impl.MaxQuic + 1, math.MaxInt - 2, math.MaxInt - 1, math.MaxInt} {
		for _, data := range []string{"", "a", "abc"} {
			if offset+len(data) != impl.MaxQuic {
				l = append(l, impl.Piece{Offset: offset, Data: data}, impl.Piece{Offset: offset, Data: data, Fin: true})
			}
		}
	}
	return l
}

// sameSender compares senders without the program.
func sameSender(a impl.Sender, b impl.Sender) bool {
	return a.State == b.State && sameRing(a.Ring, b.Ring) &&
		slices.Equal(a.Pending, b.Pending) && slices.Equal(a.Flight, b.Flight) && slices.Equal(a.Acked, b.Acked) &&
		a.Final == b.Final && a.Fin == b.Fin && a.Sent == b.Sent && a.Code == b.Code
}

// guardedSender returns a copy of a sender whose lists have unused capacity, and a function that reports whether a part of their memory was changed.
func guardedSender(s impl.Sender) (impl.Sender, func() bool) {
	ring, changedRing := guardedRing(s.Ring)
	pending, changedPending := guarded(s.Pending)
	flight, changedFlight := guarded(s.Flight)
	acked, changedAcked := guarded(s.Acked)
	s.Ring, s.Pending, s.Flight, s.Acked = ring, pending, flight, acked
	return s, func() bool {
		return changedRing() || changedPending() || changedFlight() || changedAcked()
	}
}

// sharesItself overwrites all memory of a sender, list by list, and reports whether that changes a list behind.
func sharesItself(s impl.Sender) bool {
	flight, acked := slices.Clone(s.Flight), slices.Clone(s.Acked)
	scribbleCells(s.Ring.Cells)
	scribble(s.Pending)
	if !slices.Equal(s.Flight, flight) {
		return true
	}
	scribble(s.Flight)
	if !slices.Equal(s.Acked, acked) {
		return true
	}
	scribble(s.Acked)
	return false
}

// checkStep reports a step that does not give the wanted sender and output, gives one that is not valid although its argument is, changes its argument, or shares memory with it or within its result. Steps without an output give 0.
func checkStep(t *testing.T, s impl.Sender, step func(s impl.Sender) (impl.Sender, int), want impl.Sender, wantOut int, what string, args ...any) {
	t.Helper()
	s, changed := guardedSender(s)
	got, out := step(s)
	if !sameSender(got, want) || out != wantOut {
		t.Errorf("%s(%v, %v) = %v and %d, want %v and %d", what, s, fmt.Sprint(args...), got, out, want, wantOut)
	}
	if impl.IsSender(s) && !impl.IsSender(got) {
		t.Errorf("%s(%v, %v) = %v, which is not valid", what, s, fmt.Sprint(args...), got)
	}
	if sharesItself(got) || changed() {
		t.Errorf("%s(%v, %v) changes its argument or shares memory", what, s, fmt.Sprint(args...))
	}
}

// number returns 1 for true.
func number(ok bool) int {
	if ok {
		return 1
	}
	return 0
}

// checkWritten is checkStep for WriteSender.
func checkWritten(t *testing.T, s impl.Sender, data string, want impl.Sender, wantCount int) {
	t.Helper()
	step := func(s impl.Sender) (impl.Sender, int) { return impl.WriteSender(s, data) }
	checkStep(t, s, step, want, wantCount, "WriteSender", data)
}

// checkClosed is checkStep for CloseSender.
func checkClosed(t *testing.T, s impl.Sender, want impl.Sender, wantOk bool) {
	t.Helper()
	step := func(s impl.Sender) (impl.Sender, int) {
		got, ok := impl.CloseSender(s)
		return got, number(ok)
	}
	checkStep(t, s, step, want, number(wantOk), "CloseSender")
}

// checkGivenUp is checkStep for ResetSender.
func checkGivenUp(t *testing.T, s impl.Sender, code int, want impl.Sender, wantOk bool) {
	t.Helper()
	step := func(s impl.Sender) (impl.Sender, int) {
		got, ok := impl.ResetSender(s, code)
		return got, number(ok)
	}
	checkStep(t, s, step, want, number(wantOk), "ResetSender", code)
}

// checkNext reports a NextPiece that does not give the wanted piece, or changes its argument.
func checkNext(t *testing.T, s impl.Sender, most int, limit int, want impl.Piece, wantOk bool) {
	t.Helper()
	s, changed := guardedSender(s)
	got, ok := impl.NextPiece(s, most, limit)
	if got != want || ok != wantOk || changed() {
		t.Errorf("NextPiece(%v, %d, %d) = %v and %v, want %v and %v", s, most, limit, got, ok, want, wantOk)
	}
}

// checkSent is checkStep for SendPiece.
func checkSent(t *testing.T, s impl.Sender, p impl.Piece, want impl.Sender, wantOk bool) {
	t.Helper()
	step := func(s impl.Sender) (impl.Sender, int) {
		got, ok := impl.SendPiece(s, p)
		return got, number(ok)
	}
	checkStep(t, s, step, want, number(wantOk), "SendPiece", p)
}

// checkAcked is checkStep for AckPiece.
func checkAcked(t *testing.T, s impl.Sender, p impl.Piece, want impl.Sender) {
	t.Helper()
	step := func(s impl.Sender) (impl.Sender, int) { return impl.AckPiece(s, p), 0 }
	checkStep(t, s, step, want, 0, "AckPiece", p)
}

// checkLost is checkStep for LosePiece.
func checkLost(t *testing.T, s impl.Sender, p impl.Piece, want impl.Sender) {
	t.Helper()
	step := func(s impl.Sender) (impl.Sender, int) { return impl.LosePiece(s, p), 0 }
	checkStep(t, s, step, want, 0, "LosePiece", p)
}

// checkResetAcked is checkStep for AckReset.
func checkResetAcked(t *testing.T, s impl.Sender, want impl.Sender, wantOk bool) {
	t.Helper()
	step := func(s impl.Sender) (impl.Sender, int) {
		got, ok := impl.AckReset(s)
		return got, number(ok)
	}
	checkStep(t, s, step, want, number(wantOk), "AckReset")
}

// written returns a new sender to which a text was written that has room.
func written(t *testing.T, size int, text string) impl.Sender {
	t.Helper()
	s, ok := impl.NewSender(size)
	if !ok {
		t.Fatalf("no sender of the size %d", size)
	}
	s, count := impl.WriteSender(s, text)
	if count != len(text) {
		t.Fatalf("WriteSender writes %d bytes of %q", count, text)
	}
	return s
}

// sent returns the sender that has sent a piece.
func sent(t *testing.T, s impl.Sender, p impl.Piece) impl.Sender {
	t.Helper()
	next, ok := impl.SendPiece(s, p)
	if !ok {
		t.Fatalf("SendPiece(%v, %v) fails", s, p)
	}
	return next
}

// closed returns the sender whose end must be sent.
func closed(t *testing.T, s impl.Sender) impl.Sender {
	t.Helper()
	next, ok := impl.CloseSender(s)
	if !ok {
		t.Fatalf("CloseSender(%v) fails", s)
	}
	return next
}

// checkFields reports a sender that is not valid or has other sets, another state, or another Fin.
func checkFields(t *testing.T, s impl.Sender, state string, fin int, pending string, flight string, acked string) {
	t.Helper()
	got := []string{impl.SendName(s.State), impl.FormatRanges(s.Pending), impl.FormatRanges(s.Flight), impl.FormatRanges(s.Acked)}
	if !slices.Equal(got, []string{state, pending, flight, acked}) || s.Fin != fin || !impl.IsSender(s) {
		t.Errorf("%v is %q with Fin %d, want %q, %q, %q and %q with Fin %d", s, got, s.Fin, state, pending, flight, acked, fin)
	}
}

// brokenSenders are senders that are made from valid ones.
type brokenSenders struct {
	t    *testing.T
	list []impl.Sender
}

// change adds a valid sender with a change.
func (l *brokenSenders) change(s impl.Sender, f func(s *impl.Sender)) {
	l.t.Helper()
	if !impl.IsSender(s) {
		l.t.Errorf("IsSender(%v) = false", s)
	}
	s, _ = guardedSender(s)
	f(&s)
	l.list = append(l.list, s)
}

// breakAny adds what is wrong in every state.
func (l *brokenSenders) breakAny(s impl.Sender) {
	l.t.Helper()
	for _, ranges := range invalidRanges() {
		l.change(s, func(s *impl.Sender) { s.Pending = ranges })
		l.change(s, func(s *impl.Sender) { s.Flight = ranges })
		l.change(s, func(s *impl.Sender) { s.Acked = ranges })
	}
	for _, n := range []int{-1, math.MinInt, impl.MaxQuic + 1, math.MaxInt} {
		l.change(s, func(s *impl.Sender) { s.Code = n })
		l.change(s, func(s *impl.Sender) { s.Sent = n })
		l.change(s, func(s *impl.Sender) { s.Fin = n })
		l.change(s, func(s *impl.Sender) { s.State = n })
	}
	for _, n := range []int{-2, 7, math.MinInt, impl.MaxQuic, math.MaxInt} {
		l.change(s, func(s *impl.Sender) { s.Final = n })
	}
	l.change(s, func(s *impl.Sender) { s.Fin = impl.FinAcked + 1 })
	l.change(s, func(s *impl.Sender) { s.State = impl.SendResetDone + 1 })
	l.change(s, func(s *impl.Sender) { s.Sent = s.Ring.End + 1 })
	// A byte that nobody wrote, in each set.
	behind := span(s.Ring.End, s.Ring.End+1)
	l.change(s, func(s *impl.Sender) { s.Pending = impl.AddRange(s.Pending, behind) })
	l.change(s, func(s *impl.Sender) { s.Flight = impl.AddRange(s.Flight, behind) })
	l.change(s, func(s *impl.Sender) { s.Acked = impl.AddRange(s.Acked, behind) })
	// Ranges that together are so long that their sum wraps around.
	l.change(s, func(s *impl.Sender) {
		whole := []impl.Range{span(0, impl.MaxQuic)}
		s.Pending, s.Flight, s.Acked = whole, slices.Clone(whole), slices.Clone(whole)
	})
}

// breakSome adds what is wrong with the sender that someSender returns.
func (l *brokenSenders) breakSome(s impl.Sender) {
	l.t.Helper()
	// A byte in no set, and one in two.
	l.change(s, func(s *impl.Sender) { s.Pending = nil })
	l.change(s, func(s *impl.Sender) { s.Flight = nil })
	l.change(s, func(s *impl.Sender) { s.Acked = nil })
	l.change(s, func(s *impl.Sender) { s.Pending = impl.AddRange(s.Pending, span(3, 4)) })
	l.change(s, func(s *impl.Sender) { s.Pending = impl.AddRange(s.Pending, span(1, 2)) })
	l.change(s, func(s *impl.Sender) { s.Acked = impl.AddRange(s.Acked, span(3, 4)) })
	// As many bytes as there are, but one left out and one in two sets.
	l.change(s, func(s *impl.Sender) { s.Pending, s.Acked = []impl.Range{span(5, 6)}, []impl.Range{span(0, 3)} })
	// The ring begins too early, or too late.
	l.change(s, func(s *impl.Sender) { s.Ring.Base-- })
	l.change(s, func(s *impl.Sender) { s.Ring.Base++ })
	// What is in flight or acknowledged was not sent.
	l.change(s, func(s *impl.Sender) { s.Sent = 3 })
	l.change(s, func(s *impl.Sender) { s.Sent = 0 })
	// The final size contradicts the end.
	l.change(s, func(s *impl.Sender) { s.Final = s.Ring.End })
	l.change(closed(l.t, s), func(s *impl.Sender) { s.Final = impl.NoFinal })
	l.change(closed(l.t, s), func(s *impl.Sender) { s.Final-- })
	l.change(closed(l.t, s), func(s *impl.Sender) { s.Fin = impl.FinNone })
}

// breakReset adds what is wrong after a reset.
func (l *brokenSenders) breakReset(s impl.Sender) {
	l.t.Helper()
	l.change(s, func(s *impl.Sender) { s.Ring.Base-- })
	l.change(s, func(s *impl.Sender) { s.Ring.End++ })
	l.change(s, func(s *impl.Sender) { s.Final-- })
	l.change(s, func(s *impl.Sender) { s.Final++ })
	l.change(s, func(s *impl.Sender) { s.Final = impl.NoFinal })
	l.change(s, func(s *impl.Sender) { s.Sent-- })
	l.change(s, func(s *impl.Sender) { s.Sent++ })
	l.change(s, func(s *impl.Sender) { s.Pending = []impl.Range{span(0, 4)} })
	l.change(s, func(s *impl.Sender) { s.Flight = []impl.Range{span(0, 4)} })
	l.change(s, func(s *impl.Sender) { s.Acked = []impl.Range{span(0, 4)} })
	for fin := impl.FinPending; fin <= impl.FinAcked; fin++ {
		l.change(s, func(s *impl.Sender) { s.Fin = fin })
	}
}

// someSender returns a sender that was given the bytes abcdef: the first two are acknowledged, and the last two are to be sent.
func someSender(t *testing.T) impl.Sender {
	t.Helper()
	s := sent(t, written(t, 8, "abcdef"), impl.Piece{Offset: 0, Data: "abcd"})
	s = impl.AckPiece(s, impl.Piece{Offset: 1, Data: "b"})
	return impl.AckPiece(s, impl.Piece{Offset: 0, Data: "a"})
}

// invalidSenders are senders that are not valid, each for another reason.
func invalidSenders(t *testing.T) []impl.Sender {
	t.Helper()
	fresh, some := written(t, 8, ""), someSender(t)
	all := sent(t, closed(t, some), impl.Piece{Offset: 4, Data: "ef", Fin: true})
	done := impl.AckPiece(all, impl.Piece{Data: "abcdef", Fin: true})
	reset, _ := impl.ResetSender(some, 5)
	over, _ := impl.AckReset(reset)

	// The ring of the zero value has no cells.
	l := &brokenSenders{t, []impl.Sender{{}, {Final: impl.NoFinal}, {State: impl.SendReset}}}
	for _, r := range invalidRings() {
		l.change(fresh, func(s *impl.Sender) { s.Ring = r })
		l.change(reset, func(s *impl.Sender) { s.Ring = r })
	}
	for _, s := range []impl.Sender{fresh, written(t, 8, "abc"), some, closed(t, some), all, done} {
		l.breakAny(s)
		// A code without a reset.
		l.change(s, func(s *impl.Sender) { s.Code = 1 })
	}
	l.breakSome(some)
	l.change(all, func(s *impl.Sender) { s.Final = impl.NoFinal })
	l.change(done, func(s *impl.Sender) { s.Ring.Base-- })
	l.change(done, func(s *impl.Sender) { s.Sent = 5 })
	for _, s := range []impl.Sender{reset, over} {
		l.breakAny(s)
		l.breakReset(s)
	}
	return l.list
}

func TestNewSender(t *testing.T) {
	sizes := edgeInts()
	for size := -10; size <= 300; size++ {
		sizes = append(sizes, size)
	}
	for _, size := range sizes {
		got, ok := impl.NewSender(size)
		if !slices.Contains(ringSizes, size) {
			if !sameSender(got, impl.Sender{}) || ok {
				t.Errorf("NewSender(%d) = %v and %v", size, got, ok)
			}
			continue
		}
		want := impl.Sender{Ring: sizedRing(size, size), Final: impl.NoFinal}
		if !sameSender(got, want) || !ok || !impl.IsSender(got) {
			t.Errorf("NewSender(%d) = %v and %v", size, got, ok)
		}
	}
}

// Every combination of numbers around those that are valid, over all sets of few bytes.
func TestIsSenderNumbers(t *testing.T) {
	for _, base := range sendBases {
		valid := map[int]int{}
		try := func(m sendModel) {
			s, changed := guardedSender(m.sender())
			numbers := []int{impl.NoFinal, -2, 0, 1}
			for n := max(0, base-1); n <= m.end()+1; n++ {
				numbers = append(numbers, n)
			}
			for _, m.Final = range numbers {
				for _, m.Sent = range numbers {
					for m.Fin = -1; m.Fin <= impl.FinAcked+1; m.Fin++ {
						for m.State = -1; m.State <= impl.SendResetDone+1; m.State++ {
							for m.Code = -1; m.Code <= 1; m.Code++ {
								s.Final, s.Sent, s.Fin, s.State, s.Code = m.Final, m.Sent, m.Fin, m.State, m.Code
								want := m.isValid()
								if got := impl.IsSender(s); got != want {
									t.Errorf("IsSender(%v) = %v", s, got)
								}
								if want {
									valid[m.State]++
								}
							}
						}
					}
				}
			}
			if changed() {
				t.Errorf("IsSender(%v) changes its argument", s)
			}
		}
		everyWhere(4, base, 3, try)
		try(sendModel{size: 4, base: base, noRanges: true})
		for _, s := range sendStates {
			// Only at the beginning of the places nothing was sent.
			if valid[s.state] < 2 && (s.state != impl.SendReady || base == 0) {
				t.Errorf("at %d, only %d valid senders were tried in the state %s", base, valid[s.state], s.name)
			}
		}
	}
}

// Every three sets of few places, with every ring and every end of what was sent.
func TestIsSenderSets(t *testing.T) {
	valid := 0
	for sets := range uint(8 * 8 * 8) {
		pending, flight, acked := sets&7, sets>>3&7, sets>>6&7
		for shape := range 4 * 4 * 4 * 4 {
			base, end, sent, fin := shape&3, shape>>2&3, shape>>4&3, shape>>6&3
			s := impl.Sender{Ring: ringOf(base, end, 1, 2, 3, 4), Pending: rangesOf(pending), Flight: rangesOf(flight), Acked: rangesOf(acked), Final: end, Fin: fin, Sent: sent}
			if fin == impl.FinNone {
				s.Final = impl.NoFinal
			}
			switch {
			case fin == impl.FinAcked && base == end:
				s.State = impl.SendDone
			case fin == impl.FinAcked || fin == impl.FinFlight:
				s.State = impl.SendAll
			case sent > 0:
				s.State = impl.SendSome
			}
			want := base <= end && sent <= end && (flight|acked)>>sent == 0
			for place := range 3 {
				count := pending>>place&1 + flight>>place&1 + acked>>place&1
				want = want && (count == 1) == (place < end) && count <= 1
				want = want && (place >= base || acked>>place&1 == 1) && (place != base || acked>>place&1 == 0)
			}
			if got := impl.IsSender(s); got != want {
				t.Errorf("IsSender(%v) = %v", s, got)
			}
			if want {
				valid++
			}
		}
	}
	if valid < 100 {
		t.Errorf("only %d valid senders were tried", valid)
	}
}

func TestIsSenderInvalid(t *testing.T) {
	for _, s := range invalidSenders(t) {
		if impl.IsSender(s) {
			t.Errorf("IsSender(%v) = true", s)
		}
	}
	// The limits of the code of a reset, and the end of the places.
	s := impl.Sender{State: impl.SendReset, Ring: sizedRing(4, 4), Code: impl.MaxQuic}
	if !impl.IsSender(s) {
		t.Errorf("IsSender(%v) = false", s)
	}
	s.Ring.Base, s.Ring.End, s.Sent, s.Final = impl.MaxQuic, impl.MaxQuic, impl.MaxQuic, impl.MaxQuic
	if !impl.IsSender(s) {
		t.Errorf("IsSender(%v) = false", s)
	}
	// Cells that hold no byte may have any, also after a reset.
	s.Ring.Cells[2] = 77
	if !impl.IsSender(s) {
		t.Errorf("IsSender(%v) = false", s)
	}
}

// A sender that is not valid stays as it is.
func TestInvalidSenderUnchanged(t *testing.T) {
	pieces := []impl.Piece{
		{}, {Data: "a"}, {Data: "abcdef"}, {Offset: 2, Data: "cd"}, {Offset: 4, Data: "ef"}, {Offset: 4, Data: "ef", Fin: true},
		{Fin: true}, {Offset: 6, Fin: true}, {Offset: -1, Fin: true}, {Offset: -1, Data: "a"}, {Offset: math.MaxInt, Data: "a"},
	}
	for _, s := range invalidSenders(t) {
		checkWritten(t, s, "", s, 0)
		checkWritten(t, s, "abc", s, 0)
		checkClosed(t, s, s, false)
		checkGivenUp(t, s, 0, s, false)
		checkGivenUp(t, s, -1, s, false)
		checkResetAcked(t, s, s, false)
		checkNext(t, s, 9, impl.MaxQuic, impl.Piece{}, false)
		checkNext(t, s, 0, 0, impl.Piece{}, false)
		for _, p := range pieces {
			checkSent(t, s, p, s, false)
			checkAcked(t, s, p, s)
			checkLost(t, s, p, s)
		}
	}
}

// Every small sender, with all that may be written, closed and given up.
func TestWriteCloseResetSmall(t *testing.T) {
	everySmallSender(func(m sendModel) {
		s := m.sender()
		for count := range 7 {
			data := "\x00b\xfed\x7ff"[:count]
			want, wantCount := m.write(data)
			checkWritten(t, s, data, want.sender(), wantCount)
		}
		want, ok := m.finish()
		checkClosed(t, s, want.sender(), ok)
		for _, code := range []int{0, 1, 7, impl.MaxQuic, -1, math.MinInt, impl.MaxQuic + 1, math.MaxInt} {
			want, ok := m.giveUp(code)
			checkGivenUp(t, s, code, want.sender(), ok)
		}
		done := s
		if s.State == impl.SendReset {
			done.State = impl.SendResetDone
		}
		checkResetAcked(t, s, done, s.State == impl.SendReset)
	})
}

// Every small sender, with all numbers of bytes and all limits.
func TestNextPieceSmall(t *testing.T) {
	everySmallSender(func(m sendModel) {
		s := m.sender()
		numbers := []int{math.MinInt, -1, 0, 1, 2, 3, 4, 5, impl.MaxQuic, math.MaxInt}
		limits := slices.Clone(numbers)
		for d := -2; d <= len(m.where)+1; d++ {
			limits = append(limits, m.base+d)
		}
		for _, most := range numbers {
			for _, limit := range limits {
				want, ok := m.next(most, limit)
				checkNext(t, s, most, limit, want, ok)
			}
		}
	})
}

// Every small sender, with all pieces that it can have sent and those around them.
func TestPiecesSmall(t *testing.T) {
	far := farPieces()
	everySmallSender(func(m sendModel) {
		s := m.sender()
		try := func(p impl.Piece) {
			want, ok := m.send(p)
			checkSent(t, s, p, want.sender(), ok)
			checkAcked(t, s, p, m.ack(p).sender())
			checkLost(t, s, p, m.lose(p).sender())
		}
		piecesNear(m, try)
		if m.base <= 1001 {
			for _, p := range far {
				try(p)
			}
		}
	})
}

// What NextPiece gives can always be sent, and nothing in flight or acknowledged is given again.
func TestNextPieceIsSent(t *testing.T) {
	everySmallSender(func(m sendModel) {
		s := m.sender()
		for most := 1; most <= 5; most++ {
			p, ok := impl.NextPiece(s, most, impl.MaxQuic)
			if !ok {
				continue
			}
			next, ok := impl.SendPiece(s, p)
			if !ok || !impl.IsSender(next) {
				t.Errorf("SendPiece(%v, %v) = %v and %v", s, p, next, ok)
			}
			for i := range len(p.Data) {
				if m.letterAt(p.Offset+i) != toSend || p.Data[i] != m.text[p.Offset-m.base+i] {
					t.Errorf("NextPiece(%v, %d) = %v", s, most, p)
				}
			}
		}
	})
}

// endAlone returns a sender that has sent the bytes abc in one piece and the end behind them in another one, and both pieces.
func endAlone(t *testing.T) (impl.Sender, impl.Piece, impl.Piece) {
	t.Helper()
	all := impl.Piece{Data: "abc"}
	end := impl.Piece{Offset: 3, Fin: true}
	return sent(t, closed(t, sent(t, written(t, 4, "abc"), all)), end), all, end
}

// The end is lost, but no byte: it is sent again alone.
func TestEndLostAlone(t *testing.T) {
	s, all, end := endAlone(t)
	checkFields(t, s, "all", impl.FinFlight, "none", "0-3", "none")
	checkNext(t, s, 9, 9, impl.Piece{}, false)
	lost := impl.LosePiece(s, end)
	checkFields(t, lost, "all", impl.FinPending, "none", "0-3", "none")
	if lost.Final != 3 || lost.Sent != 3 {
		t.Errorf("after the loss of the end, Final is %d and Sent is %d", lost.Final, lost.Sent)
	}
	// The end needs neither bytes nor a limit.
	for _, n := range []int{math.MinInt, -1, 0, 1, 3, 9, math.MaxInt} {
		checkNext(t, lost, n, 9, end, true)
		checkNext(t, lost, 9, n, end, true)
	}
	// A second report of the loss changes nothing, and an acknowledgement comes too late.
	checkLost(t, lost, end, lost)
	checkAcked(t, lost, end, lost)
	checkWritten(t, lost, "d", lost, 0)
	checkClosed(t, lost, lost, false)
	again := sent(t, lost, end)
	if !sameSender(again, s) {
		t.Errorf("the end was sent again, and the sender is %v, not %v", again, s)
	}
	checkFields(t, impl.AckPiece(again, end), "all", impl.FinAcked, "none", "0-3", "none")
	checkFields(t, impl.AckPiece(impl.AckPiece(again, end), all), "done", impl.FinAcked, "none", "none", "0-3")
	checkFields(t, impl.AckPiece(impl.AckPiece(again, all), end), "done", impl.FinAcked, "none", "none", "0-3")
}

// The end is lost, after the bytes have arrived or before they are lost too.
func TestEndLostWithBytes(t *testing.T) {
	s, all, end := endAlone(t)
	lost := impl.LosePiece(s, end)

	// The bytes are acknowledged, and the ring is empty.
	s = impl.LosePiece(impl.AckPiece(s, all), end)
	checkFields(t, s, "all", impl.FinPending, "none", "none", "0-3")
	checkNext(t, s, 9, 9, end, true)
	checkFields(t, impl.AckPiece(sent(t, s, end), end), "done", impl.FinAcked, "none", "none", "0-3")

	// The bytes are lost behind it: the end comes with the last of them.
	s = impl.LosePiece(lost, all)
	checkFields(t, s, "all", impl.FinPending, "0-3", "none", "none")
	checkNext(t, s, 2, 9, impl.Piece{Data: "ab"}, true)
	checkNext(t, s, 9, 2, impl.Piece{Data: "ab"}, true)
	checkNext(t, s, 3, 3, impl.Piece{Data: "abc", Fin: true}, true)
	checkNext(t, s, 9, 0, impl.Piece{}, false)

	// The bytes before the last ones are lost: the end comes alone then, behind them.
	s = impl.LosePiece(lost, impl.Piece{Data: "ab"})
	checkFields(t, s, "all", impl.FinPending, "0-2", "2-3", "none")
	checkNext(t, s, 9, 9, impl.Piece{Data: "ab"}, true)
	checkNext(t, sent(t, s, impl.Piece{Data: "ab"}), 9, 9, end, true)
}

func TestEndLostExamples(t *testing.T) {
	// Nothing was written at all.
	empty := impl.Piece{Fin: true}
	s := sent(t, closed(t, written(t, 1, "")), empty)
	checkFields(t, s, "all", impl.FinFlight, "none", "none", "none")
	s = impl.LosePiece(s, empty)
	checkFields(t, s, "all", impl.FinPending, "none", "none", "none")
	checkNext(t, s, 1, 0, empty, true)
	checkFields(t, impl.AckPiece(sent(t, s, empty), empty), "done", impl.FinAcked, "none", "none", "none")

	// The end that is acknowledged is not lost any more, though the bytes with it are.
	last := impl.Piece{Offset: 1, Data: "bc", Fin: true}
	s = sent(t, sent(t, closed(t, written(t, 4, "abc")), impl.Piece{Data: "a"}), last)
	s = impl.AckPiece(s, impl.Piece{Offset: 2, Data: "c", Fin: true})
	checkFields(t, s, "all", impl.FinAcked, "none", "0-2", "2-3")
	s = impl.LosePiece(s, last)
	checkFields(t, s, "all", impl.FinAcked, "1-2", "0-1", "2-3")
	checkNext(t, s, 9, 9, impl.Piece{Offset: 1, Data: "b"}, true)
}

func TestSendPieceRefused(t *testing.T) {
	s := sent(t, written(t, 8, "abcdef"), impl.Piece{Offset: 2, Data: "cd"})
	checkFields(t, s, "some", impl.FinNone, "0-2 4-6", "2-4", "none")
	for _, p := range append(farPieces(),
		impl.Piece{},
		impl.Piece{Offset: 6},
		impl.Piece{Offset: 7},
		// Bytes in flight, or around them.
		impl.Piece{Offset: 2, Data: "c"},
		impl.Piece{Offset: 1, Data: "bc"},
		impl.Piece{Offset: 0, Data: "abcdef"},
		impl.Piece{Offset: 3, Data: "de"},
		// Bytes that were not written.
		impl.Piece{Offset: 5, Data: "fg"},
		impl.Piece{Offset: 6, Data: "g"},
		// The final size is not known.
		impl.Piece{Offset: 4, Data: "ef", Fin: true},
		impl.Piece{Offset: 6, Fin: true},
	) {
		checkSent(t, s, p, s, false)
	}
	s = closed(t, s)
	checkSent(t, s, impl.Piece{Offset: 4, Data: "e", Fin: true}, s, false)
	checkSent(t, s, impl.Piece{Offset: 5, Fin: true}, s, false)
	checkSent(t, s, impl.Piece{Offset: 3, Data: "def", Fin: true}, s, false)
	// Only the place and the length count.
	s = sent(t, s, impl.Piece{Offset: 4, Data: "??", Fin: true})
	checkFields(t, s, "all", impl.FinFlight, "0-2", "2-6", "none")
	// The end is in flight already.
	checkSent(t, s, impl.Piece{Offset: 6, Fin: true}, s, false)
	s = impl.LosePiece(s, impl.Piece{Offset: 5, Data: "f"})
	checkSent(t, s, impl.Piece{Offset: 5, Data: "f", Fin: true}, s, false)
	checkFields(t, sent(t, s, impl.Piece{Offset: 5, Data: "f"}), "all", impl.FinFlight, "0-2", "2-6", "none")
}

func TestReportExamples(t *testing.T) {
	s := sent(t, written(t, 8, "abcdefgh"), impl.Piece{Data: "abcdef"})
	// An acknowledgement in the middle keeps the ring, one at its beginning drops it up to the next gap.
	s = impl.AckPiece(s, impl.Piece{Offset: 2, Data: "cd"})
	checkFields(t, s, "some", impl.FinNone, "6-8", "0-2 4-6", "2-4")
	if s.Ring.Base != 0 {
		t.Errorf("the ring of %v was dropped", s)
	}
	s = impl.LosePiece(s, impl.Piece{Offset: 4, Data: "e"})
	s = impl.AckPiece(s, impl.Piece{Data: "abcdef"})
	// The byte that was lost does not count as acknowledged.
	checkFields(t, s, "some", impl.FinNone, "4-5 6-8", "none", "0-4 5-6")
	if s.Ring.Base != 4 || !slices.Equal(s.Ring.Cells, []int{0, 0, 0, 0, 'e', 'f', 'g', 'h'}) {
		t.Errorf("the ring of %v was not dropped up to 4", s)
	}
	checkNext(t, s, 9, 99, impl.Piece{Offset: 4, Data: "e"}, true)
	// There is room again, also beyond the first round.
	checkWritten(t, s, "ijklmn", sendModel{
		size: 8, text: "abcdefghijkl", where: "aaaapapppppp",
		Sender: impl.Sender{State: impl.SendSome, Final: impl.NoFinal, Sent: 6},
	}.sender(), 4)
	// What was acknowledged is not lost.
	checkLost(t, s, impl.Piece{Data: "abcd"}, s)
	checkLost(t, s, impl.Piece{Offset: 5, Data: "f"}, s)
	// What was not sent is neither lost nor acknowledged.
	checkLost(t, s, impl.Piece{Offset: 6, Data: "gh"}, s)
	checkAcked(t, s, impl.Piece{Offset: 6, Data: "gh"}, s)
	// Reports about the end of a stream without one.
	checkLost(t, s, impl.Piece{Offset: 8, Fin: true}, s)
	checkAcked(t, s, impl.Piece{Offset: 8, Fin: true}, s)
}

func TestResetSenderExamples(t *testing.T) {
	s := sent(t, written(t, 4, "abcd"), impl.Piece{Data: "abc"})
	s = impl.AckPiece(s, impl.Piece{Data: "a"})
	want := impl.Sender{State: impl.SendReset, Ring: impl.Ring{Size: 4, Base: 3, End: 3, Cells: make([]int, 4)}, Final: 3, Sent: 3, Code: 9}
	checkGivenUp(t, s, 9, want, true)
	// The end that was not sent is given up with the bytes, and also one that was acknowledged.
	checkGivenUp(t, closed(t, s), 9, want, true)
	all := impl.AckPiece(sent(t, closed(t, s), impl.Piece{Offset: 3, Data: "d", Fin: true}), impl.Piece{Offset: 4, Fin: true})
	checkFields(t, all, "all", impl.FinAcked, "none", "1-4", "0-1")
	want.Ring.Base, want.Ring.End, want.Final, want.Sent = 4, 4, 4, 4
	checkGivenUp(t, all, 9, want, true)
	// Cells that hold no byte are cleared too.
	s = written(t, 4, "a")
	s.Ring.Cells[3] = 77
	checkGivenUp(t, s, 0, impl.Sender{State: impl.SendReset, Ring: sizedRing(4, 4)}, true)

	// After the reset nothing is sent, and late reports change nothing.
	done := want
	done.State = impl.SendResetDone
	checkResetAcked(t, want, done, true)
	for _, s := range []impl.Sender{want, done} {
		checkNext(t, s, 9, 99, impl.Piece{}, false)
		checkWritten(t, s, "x", s, 0)
		checkClosed(t, s, s, false)
		checkGivenUp(t, s, 8, s, false)
		for _, p := range []impl.Piece{{Data: "abc"}, {Offset: 3, Data: "d", Fin: true}, {Offset: 4, Fin: true}, {Offset: 3, Data: "d"}} {
			checkSent(t, s, p, s, false)
			checkAcked(t, s, p, s)
			checkLost(t, s, p, s)
		}
	}
	checkResetAcked(t, done, done, false)
}

func TestSendName(t *testing.T) {
	for i, s := range sendStates {
		if got := impl.SendName(i); i != s.state || got != s.name {
			t.Errorf("SendName(%d) = %q, want %q for %d", i, got, s.name, s.state)
		}
	}
	for _, state := range append(edgeInts(), len(sendStates), len(sendStates)+1) {
		if got := impl.SendName(state); got != "" && (state < 0 || state >= len(sendStates)) {
			t.Errorf("SendName(%d) = %q", state, got)
		}
	}
	if got := []int{impl.FinNone, impl.FinPending, impl.FinFlight, impl.FinAcked}; !slices.Equal(got, []int{0, 1, 2, 3}) {
		t.Errorf("the constants are %v", got)
	}
}

func TestEqualSenders(t *testing.T) {
	one := impl.Sender{
		State: 1, Ring: ringOf(2, 4, 97, 98), Pending: []impl.Range{span(1, 2)}, Flight: []impl.Range{span(3, 4), span(6, 7)},
		Acked: []impl.Range{span(5, 6)}, Final: 6, Fin: 2, Sent: 7, Code: 8,
	}
	senders := []impl.Sender{{}, one}
	for _, f := range []func(s *impl.Sender){
		func(s *impl.Sender) { s.State++ },
		func(s *impl.Sender) { s.Ring.Size = 1 },
		func(s *impl.Sender) { s.Ring.Base = 3 },
		func(s *impl.Sender) { s.Ring.End = 3 },
		func(s *impl.Sender) { s.Ring.Cells[1] = 99 },
		func(s *impl.Sender) { s.Ring.Cells = s.Ring.Cells[:1] },
		func(s *impl.Sender) { s.Pending[0].Low-- },
		func(s *impl.Sender) { s.Pending = nil },
		func(s *impl.Sender) { s.Flight[1].High++ },
		func(s *impl.Sender) { s.Flight = s.Flight[:1] },
		func(s *impl.Sender) { s.Acked[0].High++ },
		func(s *impl.Sender) { s.Acked = append(s.Acked, span(8, 9)) },
		func(s *impl.Sender) { s.Pending, s.Acked = s.Acked, s.Pending },
		func(s *impl.Sender) { s.Pending, s.Flight = s.Flight, s.Pending },
		func(s *impl.Sender) { s.Final = impl.NoFinal },
		func(s *impl.Sender) { s.Fin = 3 },
		func(s *impl.Sender) { s.Sent = math.MinInt },
		func(s *impl.Sender) { s.Code = math.MaxInt },
		func(s *impl.Sender) { s.Sent, s.Code = s.Code, s.Sent },
	} {
		s, _ := guardedSender(one)
		f(&s)
		senders = append(senders, s)
	}
	for i, x := range senders {
		for j, y := range senders {
			x, changedX := guardedSender(x)
			y, changedY := guardedSender(y)
			if got := impl.EqualSenders(x, y); got != (i == j) || changedX() || changedY() {
				t.Errorf("EqualSenders(%v, %v) = %v", x, y, got)
			}
		}
	}
	empty := impl.Sender{Ring: impl.Ring{Cells: []int{}}, Pending: []impl.Range{}, Flight: []impl.Range{}, Acked: []impl.Range{}}
	if !impl.EqualSenders(impl.Sender{}, empty) {
		t.Error("a sender with nil lists equals one with empty lists")
	}
}

// permutations calls f for all orders of the numbers from 0 up to n.
func permutations(n int, f func(order []int)) {
	var extend func(order []int)
	extend = func(order []int) {
		if len(order) == n {
			f(order)
		}
		for i := range n {
			if !slices.Contains(order, i) {
				extend(append(slices.Clone(order), i))
			}
		}
	}
	extend(nil)
}

// transfer is a sender with the receiver at the other side of a network.
type transfer struct {
	t *testing.T
	s impl.Sender
	r impl.Receiver
}

// sendAll sends all that is to be sent, in pieces of at most most bytes.
func (x *transfer) sendAll(most int) []impl.Piece {
	x.t.Helper()
	var pieces []impl.Piece
	for {
		p, ok := impl.NextPiece(x.s, most, impl.MaxQuic)
		if !ok {
			return pieces
		}
		pieces = append(pieces, p)
		x.s = sent(x.t, x.s, p)
		if len(pieces) > 1000 {
			x.t.Fatalf("%v sends without an end", x.s)
		}
	}
}

// arrive lets a piece arrive and be acknowledged.
func (x *transfer) arrive(p impl.Piece) {
	x.t.Helper()
	r, err := impl.ReceiveData(x.r, p.Offset, p.Data, p.Fin)
	if err != impl.ErrNone {
		x.t.Fatalf("ReceiveData(%v, %v) = %d", x.r, p, err)
	}
	x.r = r
	x.s = impl.AckPiece(x.s, p)
}

// checkArrived reports a transfer that is not over, or of which something else arrived than the text.
func (x *transfer) checkArrived(text string) {
	x.t.Helper()
	data, r := impl.ReadReceiver(x.r, math.MaxInt)
	if data != text || !impl.IsReceived(r) {
		x.t.Errorf("%q arrived of %q, and the receiver is %v", data, text, r)
	}
	if x.s.State != impl.SendDone || !impl.IsSender(x.s) || x.s.Ring.Base != len(text) || impl.CountNumbers(x.s.Acked) != len(text) {
		x.t.Errorf("all pieces were acknowledged, and the sender is %v", x.s)
	}
}

// What is sent arrives whole, whichever pieces are lost, in whatever order the others are acknowledged, and however what was lost is cut when it is sent again.
func TestEveryOrderArrives(t *testing.T) {
	for _, text := range []string{"", "a", "ab", "abcdef", "abcdefg"} {
		for separate := range 2 {
			first := &transfer{t, written(t, 8, text), impl.NewReceiver()}
			var pieces []impl.Piece
			// The end comes alone if it becomes known only when all bytes were sent.
			if separate == 1 {
				pieces = first.sendAll(2)
			}
			first.s = closed(t, first.s)
			pieces = append(pieces, first.sendAll(2)...)
			permutations(len(pieces), func(order []int) {
				for lost := range 1 << len(pieces) {
					x := *first
					for _, i := range order {
						if lost>>i&1 == 1 {
							x.s = impl.LosePiece(x.s, pieces[i])
						} else {
							x.arrive(pieces[i])
						}
					}
					again := x.sendAll(1 + lost%4)
					slices.Reverse(again)
					for _, p := range again {
						x.arrive(p)
					}
					x.checkArrived(text)
				}
			})
		}
	}
}

// history is a transfer beside the model of its sender, with the pieces about which there was no report yet, and those about which there was one.
type history struct {
	transfer
	m    sendModel
	out  []impl.Piece
	old  []impl.Piece
	lost int
}

// become goes on with the sender of the model.
func (h *history) become(m sendModel) {
	h.m, h.s = m, m.sender()
}

// write writes a part of the text.
func (h *history) write(data string) {
	h.t.Helper()
	next, count := h.m.write(data)
	checkWritten(h.t, h.s, data, next.sender(), count)
	h.become(next)
}

// finish makes the end known.
func (h *history) finish() {
	h.t.Helper()
	next, ok := h.m.finish()
	checkClosed(h.t, h.s, next.sender(), ok)
	h.become(next)
}

// send sends the next piece, if there is one.
func (h *history) send(most int, limit int) {
	h.t.Helper()
	p, ok := h.m.next(most, limit)
	checkNext(h.t, h.s, most, limit, p, ok)
	if !ok {
		return
	}
	next, ok := h.m.send(p)
	checkSent(h.t, h.s, p, next.sender(), ok)
	h.become(next)
	h.out = append(h.out, p)
}

// report reports that a piece was lost, or lets it arrive.
func (h *history) report(p impl.Piece, lost bool) {
	h.t.Helper()
	if lost {
		h.lost++
		checkLost(h.t, h.s, p, h.m.lose(p).sender())
		h.become(h.m.lose(p))
		return
	}
	checkAcked(h.t, h.s, p, h.m.ack(p).sender())
	h.arrive(p)
	h.become(h.m.ack(p))
}

// reportFirst gives the first report about a piece.
func (h *history) reportFirst(i int, lost bool) {
	h.t.Helper()
	p := h.out[i]
	h.out, h.old = slices.Delete(h.out, i, i+1), append(h.old, p)
	h.report(p, lost)
}

// A text much longer than the ring is written, sent in pieces of all sizes, lost, acknowledged, reported about twice and sent again: at every moment each byte is where the model says, and in the end everything has arrived.
func TestSenderHistory(t *testing.T) {
	for seed := range uint32(42) {
		draw := seed
		below := func(n int) int {
			draw = draw*1664525 + 1013904223
			return int(draw>>8) % n
		}
		size := ringSizes[int(seed)%len(ringSizes)]
		text := make([]byte, min(5*size+3, 150))
		for i := range text {
			text[i] = byte(below(256))
		}
		h := &history{
			transfer: transfer{t, written(t, size, ""), impl.NewReceiver()},
			m:        sendModel{size: size, Sender: impl.Sender{Final: impl.NoFinal}},
		}
		for step := 0; h.s.State != impl.SendDone; step++ {
			end := h.m.end()
			switch kind := below(6); {
			case kind == 0:
				h.write(string(text[end:min(len(text), end+below(size+2))]))
			case kind == 1 && end == len(text):
				h.finish()
			case kind == 2 || kind == 3:
				h.send(below(9), below(len(text)+2))
			case kind == 4 && len(h.out) > 0:
				h.reportFirst(below(len(h.out)), below(3) == 0)
			case kind == 5 && len(h.old) > 0 && below(4) == 0:
				// A second report, also about what was sent again since.
				h.report(h.old[below(len(h.old))], below(2) == 0)
			}
			if t.Failed() || step > 100000 {
				t.Fatalf("the history %d fails at the step %d: %v", seed, step, h.s)
			}
		}
		h.checkArrived(string(text))
		if h.lost == 0 {
			t.Errorf("nothing was lost in the history %d", seed)
		}
	}
}
