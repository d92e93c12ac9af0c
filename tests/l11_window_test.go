package tests

import (
	"math"
	"testing"

	"loop.example/g01633/impl"
)

// greatestSize, latestTime and longestTrip are the greatest size of a window, the latest time and the longest round trip, written out here so that the tests do not depend on the constants.
const (
	greatestSize = 4096
	latestTime   = 1000000
	longestTrip  = 1000
)

// windowSizes, windowPlaces and windowTimes are the numbers of which the windows of these tests are made: small ones, those around the greatest one of their kind, and the ends of int.
var (
	windowSizes  = []int{math.MinInt, -1, 0, 1, 2, 3, 4095, 4096, 4097, math.MaxInt}
	windowPlaces = []int{math.MinInt, -1, 0, 1, 2, 3, 4, 4096, greatestLimit - 4096, greatestLimit - 1, greatestLimit, greatestLimit + 1, math.MaxInt}
	windowTimes  = []int{math.MinInt, -1, 0, latestTime, latestTime + 1}
)

// stepNumbers are the numbers of bytes that are tried with each window.
var stepNumbers = []int{math.MinInt, -greatestLimit, -1, 0, 1, 2, 3, 4, 5, 4096, greatestLimit, math.MaxInt - 1, math.MaxInt}

// tripNumbers are the round trips that are tried with each window.
var tripNumbers = []int{math.MinInt, -1, 0, 1, 2, 3, 999, 1000, 1001, math.MaxInt/2 + 1, math.MaxInt}

// everyWindow calls f for all windows of these numbers, valid or not.
func everyWindow(f func(w impl.Window)) {
	everySized := func(size int, most int) {
		for _, limit := range windowPlaces {
			for _, seen := range windowPlaces {
				for _, read := range windowPlaces {
					for _, since := range windowTimes {
						f(impl.Window{Size: size, Most: most, Limit: limit, Seen: seen, Read: read, Since: since})
					}
				}
			}
		}
	}
	for _, size := range windowSizes {
		for _, most := range windowSizes {
			everySized(size, most)
		}
	}
}

// everySmallWindow calls f for all valid windows of at most five bytes, at the beginning, in the middle and near the greatest limit.
func everySmallWindow(f func(w impl.Window)) {
	everyFrom := func(read int, size int, most int) {
		for seen := read; seen <= min(read+size, greatestLimit); seen++ {
			for limit := max(seen, 1); limit <= min(read+size, greatestLimit); limit++ {
				for _, since := range []int{0, 7, latestTime - 3, latestTime} {
					f(impl.Window{Size: size, Most: most, Limit: limit, Seen: seen, Read: read, Since: since})
				}
			}
		}
	}
	for most := 1; most <= 5; most++ {
		for size := 1; size <= most; size++ {
			for _, base := range []int{0, 1000, greatestLimit - 6} {
				for read := base; read <= base+6; read++ {
					everyFrom(read, size, most)
				}
			}
		}
	}
}

// isValidWindow is IsWindow.
func isValidWindow(w impl.Window) bool {
	return isWithin(w.Most, 1, greatestSize) && isWithin(w.Size, 1, w.Most) && isWithin(w.Limit, 1, greatestLimit) &&
		isWithin(w.Seen, 0, w.Limit) && isWithin(w.Read, 0, w.Seen) && w.Limit-w.Read <= w.Size && isWithin(w.Since, 0, latestTime)
}

// isWorthRaising is MustRaise: Size less what may come before the next byte must be read is at least half of Size.
func isWorthRaising(w impl.Window) bool {
	return isValidWindow(w) && w.Limit != greatestLimit && 2*(w.Size-(w.Limit-w.Read)) >= w.Size
}

// raisedWindow is RaiseWindow.
func raisedWindow(w impl.Window, now int, trip int) (impl.Window, bool) {
	if !isWorthRaising(w) || !isWithin(now, w.Since, latestTime) || !isWithin(trip, 1, longestTrip) {
		return w, false
	}
	size := w.Size
	if now-w.Since < trip+trip {
		size = size + min(size, w.Most-size)
	}
	raised := w.Read + min(size, greatestLimit-w.Read)
	return impl.Window{Size: size, Most: w.Most, Limit: raised, Seen: w.Seen, Read: w.Read, Since: now}, true
}

// checkNewWindow reports what NewWindow gets wrong.
func checkNewWindow(t *testing.T, size int, most int, want impl.Window, wantOk bool) {
	t.Helper()
	if got, ok := impl.NewWindow(size, most); got != want || ok != wantOk {
		t.Errorf("NewWindow(%d, %d) = %v and %v, want %v and %v", size, most, got, ok, want, wantOk)
	}
}

// checkSeen reports what SeeBytes gets wrong.
func checkSeen(t *testing.T, w impl.Window, n int, want impl.Window, wantOk bool) {
	t.Helper()
	if got, ok := impl.SeeBytes(w, n); got != want || ok != wantOk {
		t.Errorf("SeeBytes(%v, %d) = %v and %v, want %v and %v", w, n, got, ok, want, wantOk)
	}
}

// checkReadBytes reports what ReadBytes gets wrong.
func checkReadBytes(t *testing.T, w impl.Window, n int, want impl.Window, wantOk bool) {
	t.Helper()
	if got, ok := impl.ReadBytes(w, n); got != want || ok != wantOk {
		t.Errorf("ReadBytes(%v, %d) = %v and %v, want %v and %v", w, n, got, ok, want, wantOk)
	}
}

// checkMustRaise reports what MustRaise gets wrong.
func checkMustRaise(t *testing.T, w impl.Window, want bool) {
	t.Helper()
	if got := impl.MustRaise(w); got != want {
		t.Errorf("MustRaise(%v) = %v, want %v", w, got, want)
	}
}

// checkRaisedWindow reports what RaiseWindow gets wrong.
func checkRaisedWindow(t *testing.T, w impl.Window, now int, trip int, want impl.Window, wantOk bool) {
	t.Helper()
	if got, ok := impl.RaiseWindow(w, now, trip); got != want || ok != wantOk {
		t.Errorf("RaiseWindow(%v, %d, %d) = %v and %v, want %v and %v", w, now, trip, got, ok, want, wantOk)
	}
}

// checkLeftFor reports what LeftFor gets wrong.
func checkLeftFor(t *testing.T, w impl.Window, want int) {
	t.Helper()
	if got := impl.LeftFor(w); got != want {
		t.Errorf("LeftFor(%v) = %d, want %d", w, got, want)
	}
}

func TestWindowConstants(t *testing.T) {
	if impl.MaxWindow != greatestSize || impl.MaxTime != latestTime {
		t.Errorf("MaxWindow is %d and MaxTime %d", impl.MaxWindow, impl.MaxTime)
	}
}

func TestNewWindow(t *testing.T) {
	sizes := []int{math.MinInt, -greatestSize, -1, 0, 1, 2, 3, 7, 8, 2048, 4095, 4096, 4097, 8192, greatestLimit, math.MaxInt}
	for _, size := range sizes {
		for _, most := range sizes {
			if !isWithin(most, 1, greatestSize) || !isWithin(size, 1, most) {
				checkNewWindow(t, size, most, impl.Window{}, false)
				continue
			}
			want := impl.Window{Size: size, Most: most, Limit: size}
			checkNewWindow(t, size, most, want, true)
			if !impl.IsWindow(want) {
				t.Errorf("IsWindow(%v) is false", want)
			}
			checkLeftFor(t, want, size)
			checkMustRaise(t, want, false)
			checkRaisedWindow(t, want, 0, 1, want, false)
		}
	}
}

func TestNewWindowExamples(t *testing.T) {
	checkNewWindow(t, 1, 1, impl.Window{Size: 1, Most: 1, Limit: 1}, true)
	checkNewWindow(t, 8, 20, impl.Window{Size: 8, Most: 20, Limit: 8}, true)
	checkNewWindow(t, 20, 20, impl.Window{Size: 20, Most: 20, Limit: 20}, true)
	checkNewWindow(t, 21, 20, impl.Window{}, false)
	checkNewWindow(t, 0, 20, impl.Window{}, false)
	checkNewWindow(t, -1, 20, impl.Window{}, false)
	checkNewWindow(t, 0, 0, impl.Window{}, false)
	checkNewWindow(t, -2, -1, impl.Window{}, false)
	checkNewWindow(t, 1, greatestSize, impl.Window{Size: 1, Most: greatestSize, Limit: 1}, true)
	checkNewWindow(t, 1, greatestSize+1, impl.Window{}, false)
}

func TestIsWindowExamples(t *testing.T) {
	valid := []impl.Window{
		{Size: 1, Most: 1, Limit: 1, Seen: 0, Read: 0, Since: 0},
		{Size: 1, Most: 1, Limit: 1, Seen: 1, Read: 1, Since: 0},
		{Size: 4, Most: 9, Limit: 4, Seen: 3, Read: 2, Since: 5},
		// No byte is left, though more of them could be admitted.
		{Size: 4, Most: 4, Limit: 7, Seen: 7, Read: 7, Since: 5},
		{Size: 4, Most: 4, Limit: 11, Seen: 7, Read: 7, Since: 5},
		// The limit may be less than the size.
		{Size: 4, Most: 4, Limit: 1, Seen: 0, Read: 0, Since: latestTime},
		{Size: greatestSize, Most: greatestSize, Limit: greatestLimit, Seen: greatestLimit, Read: greatestLimit, Since: latestTime},
		{Size: 1, Most: greatestSize, Limit: greatestLimit, Seen: greatestLimit, Read: greatestLimit - 1, Since: 1},
	}
	for _, w := range valid {
		if !impl.IsWindow(w) {
			t.Errorf("IsWindow(%v) is false", w)
		}
	}
	invalid := []impl.Window{
		{},
		{Size: 0, Most: 4, Limit: 4, Seen: 4, Read: 4},
		{Size: 5, Most: 4, Limit: 4, Seen: 4, Read: 4},
		{Size: 4, Most: greatestSize + 1, Limit: 4},
		{Size: greatestSize + 1, Most: greatestSize + 1, Limit: 4},
		{Size: greatestSize + 1, Most: greatestSize, Limit: 4},
		{Size: 4, Most: 4, Limit: 0},
		{Size: 4, Most: 4, Limit: -1, Seen: -1, Read: -1},
		{Size: 4, Most: 4, Limit: 5},
		{Size: 4, Most: 4, Limit: 6, Seen: 2, Read: 1},
		{Size: 4, Most: 4, Limit: 4, Seen: 5, Read: 4},
		{Size: 4, Most: 4, Limit: 4, Seen: 2, Read: 3},
		{Size: 4, Most: 4, Limit: 3, Seen: -1, Read: -1},
		{Size: 4, Most: 4, Limit: 3, Seen: 0, Read: -1},
		{Size: 4, Most: 4, Limit: 4, Since: -1},
		{Size: 4, Most: 4, Limit: 4, Since: latestTime + 1},
		{Size: 4, Most: 4, Limit: greatestLimit + 1, Seen: greatestLimit, Read: greatestLimit},
		{Size: greatestSize, Most: greatestSize, Limit: greatestLimit, Seen: greatestLimit, Read: greatestLimit - greatestSize - 1},
	}
	for _, w := range invalid {
		if impl.IsWindow(w) {
			t.Errorf("IsWindow(%v) is true", w)
		}
	}
}

func TestIsWindowNumbers(t *testing.T) {
	valid := 0
	everyWindow(func(w impl.Window) {
		want := isValidWindow(w)
		valid += number(want)
		if got := impl.IsWindow(w); got != want {
			t.Errorf("IsWindow(%v) = %v", w, got)
		}
	})
	if valid == 0 {
		t.Error("there is no valid window")
	}
}

// What all functions return for every window that is not valid: the argument, 0 or false.
func TestInvalidWindowUnchanged(t *testing.T) {
	count := 0
	everyWindow(func(w impl.Window) {
		if isValidWindow(w) {
			return
		}
		// There are too many windows to try every number with each of them, and so the numbers take turns.
		count++
		n := stepNumbers[count%len(stepNumbers)]
		trip := tripNumbers[count%len(tripNumbers)]
		checkLeftFor(t, w, 0)
		checkMustRaise(t, w, false)
		checkSeen(t, w, 0, w, false)
		checkSeen(t, w, n, w, false)
		checkReadBytes(t, w, 0, w, false)
		checkReadBytes(t, w, n, w, false)
		checkRaisedWindow(t, w, w.Since, 1, w, false)
		checkRaisedWindow(t, w, latestTime, trip, w, false)
	})
}

// checkBytes reports what SeeBytes, ReadBytes and LeftFor get wrong for a valid window and all numbers of bytes.
func checkBytes(t *testing.T, w impl.Window) {
	t.Helper()
	checkLeftFor(t, w, w.Limit-w.Seen)
	for _, n := range stepNumbers {
		seen, read := w, w
		// The sum of two numbers that are not negative is never too great for a uint.
		canSee := n >= 0 && uint(w.Seen)+uint(n) <= uint(w.Limit)
		canRead := n >= 0 && uint(w.Read)+uint(n) <= uint(w.Seen)
		if canSee {
			seen.Seen = w.Seen + n
		}
		if canRead {
			read.Read = w.Read + n
		}
		checkSeen(t, w, n, seen, canSee)
		checkReadBytes(t, w, n, read, canRead)
	}
}

// checkRaises reports what MustRaise and RaiseWindow get wrong for a valid window, all round trips and the times around the last one at which it grows.
func checkRaises(t *testing.T, w impl.Window) {
	t.Helper()
	checkMustRaise(t, w, isWorthRaising(w))
	for _, trip := range tripNumbers {
		last := 2*trip - 1
		for _, now := range []int{math.MinInt, -1, w.Since - 1, w.Since, w.Since + last, w.Since + last + 1, latestTime, latestTime + 1, math.MaxInt} {
			want, wantOk := raisedWindow(w, now, trip)
			checkRaisedWindow(t, w, now, trip, want, wantOk)
		}
	}
}

func TestWindowNumbers(t *testing.T) {
	everyWindow(func(w impl.Window) {
		if isValidWindow(w) {
			checkBytes(t, w)
			checkRaises(t, w)
		}
	})
}

func TestEverySmallWindow(t *testing.T) {
	raised := 0
	everySmallWindow(func(w impl.Window) {
		if !impl.IsWindow(w) {
			t.Errorf("IsWindow(%v) is false", w)
		}
		checkBytes(t, w)
		checkRaises(t, w)
		raised += number(isWorthRaising(w))
	})
	if raised == 0 {
		t.Error("no small window must be raised")
	}
}

func TestSeeAndReadExamples(t *testing.T) {
	w := impl.Window{Size: 8, Most: 20, Limit: 10, Seen: 6, Read: 3, Since: 4}
	checkLeftFor(t, w, 4)
	checkSeen(t, w, 0, w, true)
	checkSeen(t, w, 4, impl.Window{Size: 8, Most: 20, Limit: 10, Seen: 10, Read: 3, Since: 4}, true)
	checkReadBytes(t, w, 0, w, true)
	checkReadBytes(t, w, 3, impl.Window{Size: 8, Most: 20, Limit: 10, Seen: 6, Read: 6, Since: 4}, true)
	// These sums with Seen or Read, or differences from them, are too great for an int.
	for _, n := range []int{5, -1, -3, -6, math.MinInt, math.MaxInt, math.MaxInt - 3, math.MaxInt - 6} {
		checkSeen(t, w, n, w, false)
		checkReadBytes(t, w, n, w, false)
	}
	checkReadBytes(t, w, 4, w, false)
}

// A limit is worth raising from half of the size on, rounded up.
func TestMustRaiseHalf(t *testing.T) {
	halves := map[int]int{1: 1, 2: 1, 3: 2, 4: 2, 5: 3, 6: 3, 7: 4, 8: 4, 9: 5, 4095: 2048, 4096: 2048}
	for size, half := range halves {
		for _, base := range []int{0, 77, greatestLimit - 10000} {
			enough := impl.Window{Size: size, Most: size, Limit: base + size, Seen: base + size, Read: base + half}
			checkMustRaise(t, enough, true)
			enough.Seen = enough.Read
			checkMustRaise(t, enough, true)
			few := enough
			few.Read = enough.Read - 1
			checkMustRaise(t, few, false)
			checkRaisedWindow(t, few, 0, 1, few, false)
		}
	}
}

// The window grows for less than two round trips since the last change, and not at two of them.
func TestGrowthInTime(t *testing.T) {
	for _, trip := range []int{1, 2, 3, 10, 499, 500, 999, 1000} {
		for _, since := range []int{0, 1, 12345, latestTime - 2*trip} {
			w := impl.Window{Size: 6, Most: 100, Limit: 6, Seen: 5, Read: 4, Since: since}
			for passed := range 2 * trip {
				now := since + passed
				checkRaisedWindow(t, w, now, trip, impl.Window{Size: 12, Most: 100, Limit: 16, Seen: 5, Read: 4, Since: now}, true)
			}
			now := since + 2*trip
			checkRaisedWindow(t, w, now, trip, impl.Window{Size: 6, Most: 100, Limit: 10, Seen: 5, Read: 4, Since: now}, true)
		}
	}
}

func TestRaiseWindowInvalid(t *testing.T) {
	w := impl.Window{Size: 6, Most: 100, Limit: 6, Seen: 5, Read: 4, Since: 50}
	for _, now := range []int{49, 0, -1, math.MinInt, latestTime + 1, math.MaxInt} {
		checkRaisedWindow(t, w, now, 10, w, false)
	}
	for _, trip := range []int{0, -1, math.MinInt, 1001, math.MaxInt} {
		checkRaisedWindow(t, w, 50, trip, w, false)
		checkRaisedWindow(t, w, latestTime, trip, w, false)
	}
	// At the last time it is raised, as at every other one.
	checkRaisedWindow(t, w, latestTime, 10, impl.Window{Size: 6, Most: 100, Limit: 10, Seen: 5, Read: 4, Since: latestTime}, true)
	last := impl.Window{Size: 6, Most: 100, Limit: 6, Seen: 5, Read: 4, Since: latestTime}
	checkRaisedWindow(t, last, latestTime, 1, impl.Window{Size: 12, Most: 100, Limit: 16, Seen: 5, Read: 4, Since: latestTime}, true)
	checkRaisedWindow(t, last, latestTime-1, 1, last, false)
}

// A window grows to its greatest size and not beyond it.
func TestGrowthToMost(t *testing.T) {
	grown := map[[2]int]int{
		{1, 1}: 1, {1, 2}: 2, {1, 3}: 2, {2, 3}: 3, {2, 4}: 4, {3, 4}: 4, {4, 4}: 4, {8, 20}: 16, {16, 20}: 20, {20, 20}: 20,
		{1, 4096}: 2, {2047, 4096}: 4094, {2048, 4096}: 4096, {2049, 4096}: 4096, {4095, 4096}: 4096, {4096, 4096}: 4096,
		{2047, 4095}: 4094, {2048, 4095}: 4095, {4095, 4095}: 4095,
	}
	for sizes, want := range grown {
		size, most := sizes[0], sizes[1]
		w := impl.Window{Size: size, Most: most, Limit: size, Seen: size, Read: size, Since: 3}
		checkRaisedWindow(t, w, 4, 1, impl.Window{Size: want, Most: most, Limit: size + want, Seen: size, Read: size, Since: 4}, true)
		checkRaisedWindow(t, w, 5, 1, impl.Window{Size: size, Most: most, Limit: size + size, Seen: size, Read: size, Since: 5}, true)
	}
}

// A window of the greatest size, which is reached by doubling and kept.
func TestGreatestSize(t *testing.T) {
	w := impl.Window{Size: greatestSize, Most: greatestSize, Limit: greatestSize}
	checkNewWindow(t, greatestSize, greatestSize, w, true)
	checkNewWindow(t, greatestSize+1, greatestSize+1, impl.Window{}, false)
	checkNewWindow(t, greatestSize+1, greatestSize, impl.Window{}, false)
	checkLeftFor(t, w, 4096)
	checkSeen(t, w, 4097, w, false)
	full := impl.Window{Size: 4096, Most: 4096, Limit: 4096, Seen: 4096}
	checkSeen(t, w, 4096, full, true)
	checkLeftFor(t, full, 0)
	checkMustRaise(t, full, false)
	few := impl.Window{Size: 4096, Most: 4096, Limit: 4096, Seen: 4096, Read: 2047}
	checkReadBytes(t, full, 2047, few, true)
	checkMustRaise(t, few, false)
	half := impl.Window{Size: 4096, Most: 4096, Limit: 4096, Seen: 4096, Read: 2048}
	checkReadBytes(t, full, 2048, half, true)
	checkMustRaise(t, half, true)
	for _, now := range []int{0, 1, 2, latestTime} {
		checkRaisedWindow(t, half, now, 1, impl.Window{Size: 4096, Most: 4096, Limit: 6144, Seen: 4096, Read: 2048, Since: now}, true)
	}

	grown, _ := impl.NewWindow(1, greatestSize)
	for size := 2; size <= 4*greatestSize; size *= 2 {
		grown, _ = impl.SeeBytes(grown, impl.LeftFor(grown))
		grown, _ = impl.ReadBytes(grown, grown.Seen-grown.Read)
		want := grown
		want.Size = min(size, 4096)
		want.Limit = grown.Read + want.Size
		checkRaisedWindow(t, grown, 0, 1, want, true)
		grown = want
	}
	// 1 + 2 + 4 + .. + 2048 bytes, and then 4096 at a time.
	if want := (impl.Window{Size: 4096, Most: 4096, Limit: 4095 + 3*4096, Seen: 4095 + 2*4096, Read: 4095 + 2*4096}); grown != want {
		t.Errorf("the window has grown to %v, want %v", grown, want)
	}
}

// The limit stops at the greatest number; there it is not raised any more, though what it admits is still taken.
func TestGreatestWindowLimit(t *testing.T) {
	w := impl.Window{Size: 8, Most: 64, Limit: greatestLimit - 9, Seen: greatestLimit - 9, Read: greatestLimit - 9, Since: 10}
	checkRaisedWindow(t, w, 12, 1, impl.Window{Size: 8, Most: 64, Limit: greatestLimit - 1, Seen: w.Seen, Read: w.Read, Since: 12}, true)
	last := impl.Window{Size: 16, Most: 64, Limit: greatestLimit, Seen: w.Seen, Read: w.Read, Since: 11}
	checkRaisedWindow(t, w, 11, 1, last, true)
	checkLeftFor(t, last, 9)
	checkMustRaise(t, last, false)
	checkSeen(t, last, 10, last, false)
	end := impl.Window{Size: 16, Most: 64, Limit: greatestLimit, Seen: greatestLimit, Read: w.Read, Since: 11}
	checkSeen(t, last, 9, end, true)
	done := impl.Window{Size: 16, Most: 64, Limit: greatestLimit, Seen: greatestLimit, Read: greatestLimit, Since: 11}
	checkReadBytes(t, end, 9, done, true)
	checkMustRaise(t, done, false)
	checkRaisedWindow(t, done, 11, 1, done, false)
	checkLeftFor(t, done, 0)
	// One below the greatest limit it is raised for the last time, by 1.
	near := impl.Window{Size: 4, Most: 4, Limit: greatestLimit - 1, Seen: greatestLimit - 1, Read: greatestLimit - 1}
	checkRaisedWindow(t, near, 0, 1, impl.Window{Size: 4, Most: 4, Limit: greatestLimit, Seen: greatestLimit - 1, Read: greatestLimit - 1}, true)
}

// flow is a sender with a credit and a receiver with a window, whose limits it gets; it keeps account of what was sent, read and admitted.
type flow struct {
	t    *testing.T
	c    impl.Credit
	w    impl.Window
	sent int
	read int
	now  int
	trip int
}

// newFlow returns a flow of which all bytes before base were sent and read.
func newFlow(t *testing.T, size int, most int, base int, trip int) *flow {
	t.Helper()
	w, ok := impl.NewWindow(size, most)
	if !ok {
		t.Fatalf("NewWindow(%d, %d) is false", size, most)
	}
	w.Limit = min(base+size, greatestLimit)
	w.Seen, w.Read = base, base
	c := impl.Credit{Limit: w.Limit, Used: base, Blocked: notBlocked, Told: notBlocked}
	return &flow{t: t, c: c, w: w, sent: base, read: base, trip: trip}
}

// send sends n bytes; the receiver admits exactly what the sender may send.
func (f *flow) send(n int) {
	f.t.Helper()
	allowed := n >= 0 && n <= f.w.Limit-f.sent
	c, used := impl.UseCredit(f.c, n)
	w, seen := impl.SeeBytes(f.w, n)
	if used != allowed || seen != allowed {
		f.t.Errorf("%d bytes are sent: %v, and seen: %v, want %v", n, used, seen, allowed)
	}
	if allowed {
		f.sent += n
	}
	f.become(c, w)
}

// take reads n bytes.
func (f *flow) take(n int) {
	f.t.Helper()
	allowed := n >= 0 && n <= f.sent-f.read
	w, ok := impl.ReadBytes(f.w, n)
	if ok != allowed {
		f.t.Errorf("%d bytes are read: %v, want %v", n, ok, allowed)
	}
	if allowed {
		f.read += n
	}
	f.become(f.c, w)
}

// wait lets time pass.
func (f *flow) wait(n int) {
	f.now = min(f.now+n, latestTime)
}

// raise raises the limit, if that is worth it, and tells the sender.
func (f *flow) raise() {
	f.t.Helper()
	want, wantOk := raisedWindow(f.w, f.now, f.trip)
	w, ok := impl.RaiseWindow(f.w, f.now, f.trip)
	if w != want || ok != wantOk || ok && w.Limit <= f.w.Limit {
		f.t.Errorf("RaiseWindow(%v, %d, %d) = %v and %v, want %v and %v", f.w, f.now, f.trip, w, ok, want, wantOk)
	}
	f.become(impl.RaiseLimit(f.c, w.Limit), w)
}

// become goes on with a credit and a window, which must agree with the account and with each other.
func (f *flow) become(c impl.Credit, w impl.Window) {
	f.t.Helper()
	if !impl.IsWindow(w) || w.Seen != f.sent || w.Read != f.read || w.Seen > w.Limit || w.Read > w.Seen || w.Limit-w.Read > w.Size {
		f.t.Errorf("%v after %v, with %d sent and %d read", w, f.w, f.sent, f.read)
	}
	if w.Limit < f.w.Limit || w.Size < f.w.Size || w.Since < f.w.Since || w.Most != f.w.Most || w.Size > w.Most {
		f.t.Errorf("%v after %v", w, f.w)
	}
	if c.Limit != w.Limit || c.Used != w.Seen || impl.CreditLeft(c) != impl.LeftFor(w) {
		f.t.Errorf("the sender has %v, the receiver %v", c, w)
	}
	f.c, f.w = c, w
}

// step performs one of eight small steps.
func (f *flow) step(kind int) {
	f.t.Helper()
	switch kind {
	case 0:
		f.send(1)
	case 1:
		f.send(3)
	case 2:
		f.send(-1)
	case 3:
		f.take(1)
	case 4:
		f.take(2)
	case 5:
		f.wait(1)
	case 6:
		f.wait(2)
	case 7:
		f.raise()
	}
}

// Every sequence of five small steps keeps the promise: no more is sent, seen and read than is admitted, and limits only rise.
func TestWindowEverySequence(t *testing.T) {
	for _, base := range []int{0, 9, greatestLimit - 4} {
		for size := 1; size <= 3; size++ {
			for code := range 1 << 15 {
				f := newFlow(t, size, 4, base, 1)
				for shift := 0; shift < 15; shift += 3 {
					f.step(code >> shift & 7)
				}
				if t.Failed() {
					t.Fatalf("the sequence %d from %d with the size %d fails: %v", code, base, size, f.w)
				}
			}
		}
	}
}

// Long histories with windows of all sizes, some of them up to the greatest limit.
func TestWindowHistory(t *testing.T) {
	grown, ended := 0, 0
	for seed := range uint32(200) {
		draw := seed
		below := func(n int) int {
			draw = draw*1664525 + 1013904223
			return int(draw>>8) % n
		}
		most := 1 + below(greatestSize)>>below(12)
		base := 0
		if below(2) == 0 {
			base = greatestLimit - below(20*most)
		}
		f := newFlow(t, 1+below(most)>>below(8), most, base, 1+below(longestTrip)>>below(9))
		for step := range 2000 {
			left, held := f.w.Limit-f.sent, f.sent-f.read
			switch below(6) {
			case 0:
				f.send(left - below(3))
			case 1:
				f.send(left/(1+below(3)) + below(2))
			case 2:
				f.take(held - below(3))
			case 3:
				f.take(held/(1+below(3)) + below(2))
			case 4:
				f.wait(below(2 * f.trip))
			case 5:
				f.raise()
			}
			if t.Failed() {
				t.Fatalf("the history %d fails at the step %d: %v", seed, step, f.w)
			}
		}
		grown += number(f.w.Size == most)
		ended += number(f.w.Limit == greatestLimit)
	}
	if grown == 0 || ended == 0 {
		t.Errorf("%d windows have grown to their greatest size, and %d reach the greatest limit", grown, ended)
	}
}
