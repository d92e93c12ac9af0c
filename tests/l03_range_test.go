package tests

import (
	"math"
	"slices"
	"testing"

	"loop.example/g01633/impl"
)

// span is a short way to write a range.
func span(low int, high int) impl.Range {
	return impl.Range{Low: low, High: high}
}

// smallTop is the end of the numbers of which the tests try every set.
const smallTop = 7

// rangesOf returns the valid ranges of the numbers whose bits are set.
func rangesOf(set uint) []impl.Range {
	var out []impl.Range
	for n := 0; set>>n != 0; n++ {
		if set>>n&1 == 0 {
			continue
		}
		if last := len(out) - 1; last >= 0 && out[last].High == n {
			out[last].High = n + 1
		} else {
			out = append(out, span(n, n+1))
		}
	}
	return out
}

// numbersOf returns the set of the numbers of ranges from 0 up to 63.
func numbersOf(l []impl.Range) uint {
	var set uint
	for _, r := range l {
		for n := max(r.Low, 0); n < min(r.High, 64); n++ {
			set |= 1 << n
		}
	}
	return set
}

// everySmallRange calls f for all valid ranges up to smallTop + 1.
func everySmallRange(f func(r impl.Range)) {
	for high := 1; high <= smallTop+1; high++ {
		for low := range high {
			f(span(low, high))
		}
	}
}

// invalidRanges are lists that are not valid, each for another reason.
func invalidRanges() [][]impl.Range {
	return [][]impl.Range{
		{span(3, 3)},
		{span(4, 3)},
		{span(-1, 3)},
		{span(-3, -1)},
		{span(math.MinInt, math.MaxInt)},
		{span(math.MaxInt, math.MinInt)},
		{span(0, impl.MaxQuic+1)},
		{span(0, math.MaxInt)},
		{span(1, 2), span(2, 3)},
		{span(1, 3), span(2, 4)},
		{span(1, 9), span(2, 4)},
		{span(1, 2), span(1, 2)},
		{span(4, 6), span(1, 2)},
		{span(1, 2), span(4, 4)},
		{span(1, 2), span(6, 5)},
		{span(1, 2), span(-4, -2)},
		{span(-1, 2), span(4, 6)},
		{span(1, 2), span(4, impl.MaxQuic+1)},
		{span(1, 2), span(4, 6), span(6, 8)},
	}
}

// invalidSpans are single ranges that are not valid.
func invalidSpans() []impl.Range {
	return []impl.Range{
		{}, span(3, 3), span(5, 2), span(-1, 3), span(-5, -2), span(math.MinInt, 4),
		span(0, impl.MaxQuic+1), span(0, math.MaxInt), span(math.MinInt, math.MaxInt), span(math.MaxInt, math.MinInt),
	}
}

// guarded returns a copy of a list that has unused capacity, and a function that reports whether a part of its memory was changed.
func guarded(l []impl.Range) ([]impl.Range, func() bool) {
	whole := append(slices.Clone(l), span(-77, -7), span(-77, -7), span(-77, -7))
	before := slices.Clone(whole)
	return whole[:len(l)], func() bool { return !slices.Equal(whole, before) }
}

// scribble overwrites all memory of a result.
func scribble(l []impl.Range) {
	l = l[:cap(l)]
	for i := range l {
		l[i] = span(-99, -9)
	}
}

// checkRanges reports a result that is not the wanted one.
func checkRanges(t *testing.T, what string, got []impl.Range, want []impl.Range) {
	t.Helper()
	if !slices.Equal(got, want) {
		t.Errorf("%s: %v, want %v", what, got, want)
	}
}

// Two ranges are valid exactly if they are what is written for their numbers.
func TestIsRangesPairs(t *testing.T) {
	valid := 0
	for a := -2; a <= 5; a++ {
		for b := -2; b <= 5; b++ {
			one := []impl.Range{span(a, b)}
			if got, want := impl.IsRanges(one), a >= 0 && slices.Equal(one, rangesOf(numbersOf(one))); got != want {
				t.Errorf("IsRanges(%v) = %v", one, got)
			}
			for c := -2; c <= 5; c++ {
				for d := -2; d <= 5; d++ {
					two := []impl.Range{span(a, b), span(c, d)}
					want := slices.Equal(two, rangesOf(numbersOf(two)))
					if got := impl.IsRanges(two); got != want {
						t.Errorf("IsRanges(%v) = %v", two, got)
					}
					if want {
						valid++
					}
				}
			}
		}
	}
	// Four of the six ends from 0 to 5.
	if valid != 15 {
		t.Errorf("%d valid pairs were tried, want 15", valid)
	}
}

func TestIsRangesLists(t *testing.T) {
	for set := range uint(1) << smallTop {
		if !impl.IsRanges(rangesOf(set)) {
			t.Errorf("IsRanges(%v) is false", rangesOf(set))
		}
	}
	for _, l := range [][]impl.Range{nil, {}, {span(0, impl.MaxQuic)}, {span(impl.MaxQuic-1, impl.MaxQuic)}, {span(0, 1), span(2, impl.MaxQuic)}} {
		if !impl.IsRanges(l) {
			t.Errorf("IsRanges(%v) is false", l)
		}
	}
	for _, l := range invalidRanges() {
		if impl.IsRanges(l) {
			t.Errorf("IsRanges(%v) is true", l)
		}
	}
	for _, r := range invalidSpans() {
		if impl.IsRanges([]impl.Range{r}) {
			t.Errorf("IsRanges of %v is true", r)
		}
	}
}

// Each set of small numbers, with each range added or removed, becomes the ranges of exactly the numbers that it then has.
func TestAddAndRemoveEverySet(t *testing.T) {
	for set := range uint(1) << smallTop {
		everySmallRange(func(r impl.Range) {
			l, changed := guarded(rangesOf(set))
			change := numbersOf([]impl.Range{r})
			added, removed := impl.AddRange(l, r), impl.RemoveRange(l, r)
			if want := rangesOf(set | change); !slices.Equal(added, want) {
				t.Errorf("AddRange(%v, %v) = %v, want %v", l, r, added, want)
			}
			if want := rangesOf(set &^ change); !slices.Equal(removed, want) {
				t.Errorf("RemoveRange(%v, %v) = %v, want %v", l, r, removed, want)
			}
			scribble(added)
			scribble(removed)
			if changed() {
				t.Errorf("AddRange or RemoveRange of %v changed or kept its argument", r)
			}
		})
	}
}

// The contents after many changes in a row are the numbers that were added and not removed since.
func TestRangesHistory(t *testing.T) {
	var l []impl.Range
	var set uint
	step := 1
	for i := range 3000 {
		step = step * 69069 % 1000003
		low := step % 60
		r := span(low, min(low+1+step/60%9, 63))
		bits := numbersOf([]impl.Range{r})
		if step/600%5 < 2 || i < 9 {
			l, set = impl.AddRange(l, r), set|bits
		} else {
			l, set = impl.RemoveRange(l, r), set&^bits
		}
		if !slices.Equal(l, rangesOf(set)) {
			t.Fatalf("step %d with %v: %v, want %v", i, r, l, rangesOf(set))
		}
		for n := -1; n < 64; n++ {
			if impl.HasNumber(l, n) != (n >= 0 && set>>n&1 == 1) {
				t.Fatalf("HasNumber(%v, %d) is wrong", l, n)
			}
		}
	}
}

// Ranges that only touch have no number in common, but are joined; removing what only touches removes nothing.
func TestRangesThatTouch(t *testing.T) {
	l := []impl.Range{span(2, 4), span(6, 9)}
	checkRanges(t, "add before", impl.AddRange(l, span(1, 2)), []impl.Range{span(1, 4), span(6, 9)})
	checkRanges(t, "add behind", impl.AddRange(l, span(9, 10)), []impl.Range{span(2, 4), span(6, 10)})
	checkRanges(t, "add behind the first", impl.AddRange(l, span(4, 5)), []impl.Range{span(2, 5), span(6, 9)})
	checkRanges(t, "add before the second", impl.AddRange(l, span(5, 6)), []impl.Range{span(2, 4), span(5, 9)})
	checkRanges(t, "add between", impl.AddRange(l, span(4, 6)), []impl.Range{span(2, 9)})
	checkRanges(t, "add apart", impl.AddRange(l, span(0, 1)), []impl.Range{span(0, 1), span(2, 4), span(6, 9)})
	for _, r := range []impl.Range{span(0, 2), span(4, 6), span(4, 5), span(5, 6), span(9, 12)} {
		checkRanges(t, "remove "+impl.FormatRanges([]impl.Range{r}), impl.RemoveRange(l, r), l)
	}
	checkRanges(t, "common", impl.CommonRanges(l, []impl.Range{span(0, 2), span(4, 6), span(9, 10)}), nil)
	checkRanges(t, "parts", impl.CommonRanges(l, []impl.Range{span(3, 6), span(8, 10)}), []impl.Range{span(3, 4), span(8, 9)})
	if impl.HasNumber(l, 1) || !impl.HasNumber(l, 2) || !impl.HasNumber(l, 3) || impl.HasNumber(l, 4) {
		t.Error("a range has its Low and not its High")
	}
	touching := []impl.Range{span(1, 2), span(2, 3)}
	if impl.IsRanges(touching) || impl.CountNumbers(touching) != -1 || impl.FirstGap(touching, 1) != -1 || !impl.HasNumber(touching, 2) {
		t.Error("ranges that touch are not valid, but have numbers")
	}
}

func TestRangesAtTheTop(t *testing.T) {
	all := []impl.Range{span(0, impl.MaxQuic)}
	last := span(impl.MaxQuic-1, impl.MaxQuic)
	checkRanges(t, "add all", impl.AddRange([]impl.Range{span(1, 2), last}, all[0]), all)
	checkRanges(t, "add the last", impl.AddRange([]impl.Range{span(1, 2)}, last), []impl.Range{span(1, 2), last})
	checkRanges(t, "join the last", impl.AddRange([]impl.Range{span(0, impl.MaxQuic-1)}, last), all)
	checkRanges(t, "remove the last", impl.RemoveRange(all, last), []impl.Range{span(0, impl.MaxQuic-1)})
	checkRanges(t, "remove one", impl.RemoveRange(all, span(5, 6)), []impl.Range{span(0, 5), span(6, impl.MaxQuic)})
	checkRanges(t, "remove all", impl.RemoveRange([]impl.Range{span(1, 2), last}, all[0]), nil)
	checkRanges(t, "common", impl.CommonRanges(all, []impl.Range{span(3, 4), last}), []impl.Range{span(3, 4), last})
	if n := impl.CountNumbers(all); n != impl.MaxQuic {
		t.Errorf("CountNumbers = %d", n)
	}
	for from, want := range map[int]int{0: impl.MaxQuic, impl.MaxQuic - 1: impl.MaxQuic, impl.MaxQuic: impl.MaxQuic, impl.MaxQuic + 1: impl.MaxQuic + 1, math.MaxInt: math.MaxInt} {
		if got := impl.FirstGap(all, from); got != want {
			t.Errorf("FirstGap(%v, %d) = %d, want %d", all, from, got, want)
		}
	}
}

// With an invalid list or an invalid range, both return a copy of the list, also one that is not valid.
func TestAddAndRemoveInvalid(t *testing.T) {
	check := func(l []impl.Range, r impl.Range) {
		given, changed := guarded(l)
		added, removed := impl.AddRange(given, r), impl.RemoveRange(given, r)
		if !slices.Equal(added, l) || !slices.Equal(removed, l) {
			t.Errorf("AddRange and RemoveRange of %v, %v: %v and %v, want it unchanged", l, r, added, removed)
		}
		scribble(added)
		scribble(removed)
		if changed() {
			t.Errorf("AddRange or RemoveRange of %v, %v changed or kept its argument", l, r)
		}
	}
	for _, l := range invalidRanges() {
		check(l, span(0, 1))
		check(l, span(0, 12))
		check(l, span(1, 2))
		check(l, span(5, 5))
	}
	for _, r := range invalidSpans() {
		check(nil, r)
		check([]impl.Range{span(0, 1)}, r)
		check([]impl.Range{span(2, 4), span(6, 9)}, r)
	}
}

// HasNumber needs no valid list: each range has the numbers from Low up to High.
func TestHasNumberAnyRanges(t *testing.T) {
	cases := []struct {
		l    []impl.Range
		n    int
		want bool
	}{
		{nil, 0, false},
		{[]impl.Range{span(-5, -2)}, -5, true},
		{[]impl.Range{span(-5, -2)}, -2, false},
		{[]impl.Range{span(6, 8), span(1, 3)}, 2, true},
		{[]impl.Range{span(6, 8), span(1, 3)}, 3, false},
		{[]impl.Range{span(1, 9), span(2, 3)}, 8, true},
		{[]impl.Range{span(4, 4)}, 4, false},
		{[]impl.Range{span(6, 2)}, 4, false},
		{[]impl.Range{span(math.MinInt, math.MaxInt)}, math.MinInt, true},
		{[]impl.Range{span(math.MinInt, math.MaxInt)}, math.MaxInt - 1, true},
		{[]impl.Range{span(math.MinInt, math.MaxInt)}, math.MaxInt, false},
		{[]impl.Range{span(math.MaxInt, math.MinInt)}, 0, false},
	}
	for _, c := range cases {
		if got := impl.HasNumber(c.l, c.n); got != c.want {
			t.Errorf("HasNumber(%v, %d) = %v", c.l, c.n, got)
		}
	}
}

func TestFirstGapAndCount(t *testing.T) {
	for set := range uint(1) << smallTop {
		l := rangesOf(set)
		count := 0
		for n := range smallTop {
			count += int(set >> n & 1)
		}
		if got := impl.CountNumbers(l); got != count {
			t.Errorf("CountNumbers(%v) = %d, want %d", l, got, count)
		}
		for from := range smallTop + 2 {
			want := from
			for set>>want&1 == 1 {
				want++
			}
			if got := impl.FirstGap(l, from); got != want {
				t.Errorf("FirstGap(%v, %d) = %d, want %d", l, from, got, want)
			}
		}
		for _, from := range []int{-1, math.MinInt} {
			if got := impl.FirstGap(l, from); got != -1 {
				t.Errorf("FirstGap(%v, %d) = %d", l, from, got)
			}
		}
	}
	for _, l := range invalidRanges() {
		if got := impl.CountNumbers(l); got != -1 {
			t.Errorf("CountNumbers(%v) = %d", l, got)
		}
		for _, from := range []int{-1, 0, 3, 20, math.MaxInt} {
			if got := impl.FirstGap(l, from); got != -1 {
				t.Errorf("FirstGap(%v, %d) = %d", l, from, got)
			}
		}
	}
}

func TestCommonRangesEverySet(t *testing.T) {
	for first := range uint(1) << smallTop {
		for second := range uint(1) << smallTop {
			a, changedA := guarded(rangesOf(first))
			b, changedB := guarded(rangesOf(second))
			got := impl.CommonRanges(a, b)
			if want := rangesOf(first & second); !slices.Equal(got, want) {
				t.Errorf("CommonRanges(%v, %v) = %v, want %v", a, b, got, want)
			}
			scribble(got)
			if changedA() || changedB() {
				t.Errorf("CommonRanges changed or kept an argument of %v, %v", rangesOf(first), rangesOf(second))
			}
		}
	}
}

func TestCommonRangesInvalid(t *testing.T) {
	for _, l := range invalidRanges() {
		for _, other := range [][]impl.Range{{span(0, 20)}, {span(1, 2), span(4, 6)}, l} {
			checkRanges(t, "invalid first", impl.CommonRanges(l, other), nil)
			checkRanges(t, "invalid second", impl.CommonRanges(other, l), nil)
		}
	}
}

func TestPopRangeEverySet(t *testing.T) {
	for set := uint(1); set < 1<<smallTop; set++ {
		for _, most := range []int{1, 2, 3, 4, 5, 6, 7, 8, impl.MaxQuic, math.MaxInt} {
			l, changed := guarded(rangesOf(set))
			want := l[0]
			if want.High-want.Low > most {
				want.High = want.Low + most
			}
			first, rest, ok := impl.PopRange(l, most)
			wantRest := rangesOf(set &^ numbersOf([]impl.Range{want}))
			if first != want || !slices.Equal(rest, wantRest) || !ok {
				t.Errorf("PopRange(%v, %d) = %v, %v, %v, want %v, %v", l, most, first, rest, ok, want, wantRest)
			}
			scribble(rest)
			if changed() {
				t.Errorf("PopRange(%v, %d) changed or kept its argument", rangesOf(set), most)
			}
		}
	}
	// Low + most would be beyond the greatest int.
	top := []impl.Range{span(impl.MaxQuic-2, impl.MaxQuic)}
	if first, rest, ok := impl.PopRange(top, math.MaxInt); first != top[0] || len(rest) != 0 || !ok {
		t.Errorf("PopRange(%v, MaxInt) = %v, %v, %v", top, first, rest, ok)
	}
	if first, rest, ok := impl.PopRange(top, 1); first != span(impl.MaxQuic-2, impl.MaxQuic-1) || !slices.Equal(rest, []impl.Range{span(impl.MaxQuic-1, impl.MaxQuic)}) || !ok {
		t.Errorf("PopRange(%v, 1) = %v, %v, %v", top, first, rest, ok)
	}
}

func TestPopRangeInvalid(t *testing.T) {
	check := func(l []impl.Range, most int) {
		given, changed := guarded(l)
		first, rest, ok := impl.PopRange(given, most)
		if first != (impl.Range{}) || !slices.Equal(rest, l) || ok {
			t.Errorf("PopRange(%v, %d) = %v, %v, %v, want it unchanged", l, most, first, rest, ok)
		}
		scribble(rest)
		if changed() {
			t.Errorf("PopRange(%v, %d) changed or kept its argument", l, most)
		}
	}
	for _, most := range []int{math.MinInt, -1, 0, 1, 9} {
		check(nil, most)
		check([]impl.Range{}, most)
	}
	for _, most := range []int{math.MinInt, -1, 0} {
		check([]impl.Range{span(2, 4)}, most)
		check([]impl.Range{span(2, 4), span(6, 9)}, most)
	}
	for _, l := range invalidRanges() {
		for _, most := range []int{0, 1, 9, math.MaxInt} {
			check(l, most)
		}
	}
}

func TestFormatRanges(t *testing.T) {
	cases := []struct {
		l    []impl.Range
		want string
	}{
		{nil, "none"},
		{[]impl.Range{}, "none"},
		{[]impl.Range{span(0, 1)}, "0-1"},
		{[]impl.Range{span(2, 4), span(6, 9)}, "2-4 6-9"},
		{[]impl.Range{span(0, 5), span(6, 10), span(100, impl.MaxQuic)}, "0-5 6-10 100-4611686018427387903"},
		// Ranges that are not valid have a format, too.
		{[]impl.Range{{}}, "0-0"},
		{[]impl.Range{span(1, 2), span(2, 3)}, "1-2 2-3"},
		{[]impl.Range{span(6, 9), span(4, 2)}, "6-9 4-2"},
		{[]impl.Range{span(-5, -3)}, "-5--3"},
		{[]impl.Range{span(math.MinInt, math.MaxInt)}, "-9223372036854775808-9223372036854775807"},
	}
	for _, c := range cases {
		if got := impl.FormatRanges(c.l); got != c.want {
			t.Errorf("FormatRanges(%v) = %q, want %q", c.l, got, c.want)
		}
	}
}

func TestEqualRanges(t *testing.T) {
	lists := [][]impl.Range{
		nil,
		{{}},
		{span(2, 4)},
		{span(2, 5)},
		{span(1, 4)},
		{span(2, 4), span(6, 9)},
		{span(6, 9), span(2, 4)},
		{span(2, 4), span(2, 4)},
		{span(2, 4), span(6, 8)},
		{span(2, 4), span(5, 9)},
		{span(2, 4), span(6, 9), {}},
		{span(2, 9)},
		// The same numbers in other ranges are other ranges.
		{span(2, 5), span(5, 9)},
		{span(5, 5)},
	}
	for i, a := range lists {
		for j, b := range lists {
			if got := impl.EqualRanges(slices.Clone(a), slices.Clone(b)); got != (i == j) {
				t.Errorf("EqualRanges(%v, %v) = %v", a, b, got)
			}
		}
	}
	if !impl.EqualRanges(nil, []impl.Range{}) || !impl.EqualRanges([]impl.Range{}, nil) {
		t.Error("a nil list equals an empty one")
	}
}
