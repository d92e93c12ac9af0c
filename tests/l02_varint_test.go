package tests

import (
	"math"
	"slices"
	"strings"
	"testing"

	"loop.example/g01633/impl"
)

// quicSizes are the sizes of the forms, in the order of their two most significant bits.
var quicSizes = []int{1, 2, 4, 8}

// longForm writes n with the given number of bytes, and returns the empty string if it does not fit.
func longForm(n int, size int) string {
	mark := slices.Index(quicSizes, size)
	if n < 0 || n >= 1<<(8*size-2) {
		return ""
	}
	out := make([]byte, size)
	for i := range out {
		out[i] = byte(n >> (8 * (size - 1 - i)))
	}
	out[0] |= byte(mark << 6)
	return string(out)
}

// shortestSize returns the size of the shortest form as the document states it; 0 if n has none.
func shortestSize(n int) int {
	switch {
	case n < 0 || n > 4611686018427387903:
		return 0
	case n < 64:
		return 1
	case n < 16384:
		return 2
	case n < 1073741824:
		return 4
	}
	return 8
}

func TestQuicExamples(t *testing.T) {
	cases := []struct {
		n    int
		want string
	}{
		{0, "\x00"},
		{37, "\x25"},
		{63, "\x3f"},
		{64, "\x40\x40"},
		{15293, "\x7b\xbd"},
		{16383, "\x7f\xff"},
		{16384, "\x80\x00\x40\x00"},
		{494878333, "\x9d\x7f\x3e\x7d"},
		{1073741823, "\xbf\xff\xff\xff"},
		{1073741824, "\xc0\x00\x00\x00\x40\x00\x00\x00"},
		{151288809941952652, "\xc2\x19\x7c\x5e\xff\x14\xe8\x8c"},
		{impl.MaxQuic, "\xff\xff\xff\xff\xff\xff\xff\xff"},
	}
	for _, c := range cases {
		if got := impl.EncodeQuic(c.n); got != c.want {
			t.Errorf("EncodeQuic(%d) = %q, want %q", c.n, got, c.want)
		}
		if got := impl.SizeQuic(c.n); got != len(c.want) {
			t.Errorf("SizeQuic(%d) = %d, want %d", c.n, got, len(c.want))
		}
		if n, next, ok := impl.DecodeQuic(c.want, 0); n != c.n || next != len(c.want) || !ok {
			t.Errorf("DecodeQuic(%q, 0) = %d, %d, %v, want %d", c.want, n, next, ok, c.n)
		}
	}
}

func TestQuicInverse(t *testing.T) {
	for _, n := range edgeInts() {
		s := impl.EncodeQuic(n)
		size := shortestSize(n)
		if got := impl.SizeQuic(n); got != size || len(s) != size {
			t.Errorf("SizeQuic(%d) = %d, EncodeQuic has %d bytes, want %d", n, got, len(s), size)
			continue
		}
		if size == 0 {
			continue
		}
		if s != longForm(n, size) {
			t.Errorf("EncodeQuic(%d) = %q, want %q", n, s, longForm(n, size))
		}
		for _, head := range []string{"", "\x00", "\xff\xff\xff"} {
			for _, tail := range []string{"", "\x00", "\xff\xff"} {
				whole, at := head+s+tail, len(head)
				if got, next, ok := impl.DecodeQuic(whole, at); got != n || next != at+size || !ok {
					t.Errorf("DecodeQuic(%q, %d) = %d, %d, %v, want %d, %d", whole, at, got, next, ok, n, at+size)
				}
				if !impl.IsShortest(whole, at) {
					t.Errorf("IsShortest(%q, %d) is false for the encoding of %d", whole, at, n)
				}
			}
		}
	}
}

// A form that is longer than needed is read like any other one, but it is not the shortest.
func TestQuicLongerForms(t *testing.T) {
	longer := 0
	for _, n := range edgeInts() {
		for _, size := range quicSizes {
			s := longForm(n, size)
			if s == "" {
				continue
			}
			for _, tail := range []string{"", "\x00\x00"} {
				if got, next, ok := impl.DecodeQuic("x"+s+tail, 1); got != n || next != 1+size || !ok {
					t.Errorf("DecodeQuic(%q, 1) = %d, %d, %v, want %d, %d", "x"+s+tail, got, next, ok, n, 1+size)
				}
				if got, want := impl.IsShortest("x"+s+tail, 1), size == shortestSize(n); got != want {
					t.Errorf("IsShortest(%q, 1) = %v for %d", "x"+s+tail, got, n)
				}
			}
			if size > shortestSize(n) {
				longer++
			}
		}
	}
	if longer == 0 {
		t.Error("no longer form was tried")
	}
	for _, s := range []string{"\x40\x00", "\x80\x00\x00\x00", "\xc0\x00\x00\x00\x00\x00\x00\x00"} {
		if n, next, ok := impl.DecodeQuic(s, 0); n != 0 || next != len(s) || !ok || impl.IsShortest(s, 0) {
			t.Errorf("%q is a longer form of 0, not %d, %d, %v", s, n, next, ok)
		}
	}
}

// Of all strings of at most two bytes, exactly those with a whole form at the beginning are read.
func TestQuicShortStrings(t *testing.T) {
	accepted, shortest := 0, 0
	everyShortString(func(s string) {
		n, next, ok := impl.DecodeQuic(s, 0)
		if impl.IsShortest(s, 0) {
			shortest++
		}
		if !ok {
			if n != 0 || next != 0 || impl.IsShortest(s, 0) {
				t.Errorf("DecodeQuic(%q, 0) = %d, %d, false", s, n, next)
			}
			return
		}
		accepted++
		if longForm(n, next) != s[:next] {
			t.Errorf("DecodeQuic(%q, 0) = %d, %d", s, n, next)
		}
		if impl.IsShortest(s, 0) != (impl.EncodeQuic(n) == s[:next]) {
			t.Errorf("IsShortest(%q, 0) = %v for %d", s, impl.IsShortest(s, 0), n)
		}
	})
	// 64 of one byte, each of them also before any byte, and 64 * 256 of two bytes, of which the first 64 are longer than needed.
	if want := 64 + 64*256 + 64*256; accepted != want || shortest != want-64 {
		t.Errorf("%d strings begin with a form, %d with a shortest one, want %d, %d", accepted, shortest, want, want-64)
	}
}

func TestQuicInvalid(t *testing.T) {
	for _, n := range []int{-1, -64, math.MinInt, impl.MaxQuic + 1, math.MaxInt} {
		if s, size := impl.EncodeQuic(n), impl.SizeQuic(n); s != "" || size != 0 {
			t.Errorf("EncodeQuic(%d) = %q of size %d, want nothing", n, s, size)
		}
	}
	for _, first := range []string{"\x40", "\x7f", "\x80", "\xbf", "\xc0", "\xff"} {
		size := quicSizes[first[0]>>6]
		for have := 1; have < size; have++ {
			s := "\x00" + first + strings.Repeat("\x01", have-1)
			if n, next, ok := impl.DecodeQuic(s, 1); n != 0 || next != 0 || ok {
				t.Errorf("DecodeQuic(%q, 1) = %d, %d, %v for a part of a form", s, n, next, ok)
			}
			if impl.IsShortest(s, 1) {
				t.Errorf("IsShortest(%q, 1) is true for a part of a form", s)
			}
		}
	}
	for _, s := range []string{"", "\x05", "\x40\x40", "\xff\xff\xff\xff\xff\xff\xff\xff"} {
		for _, at := range []int{math.MinInt, -8, -1, len(s), len(s) + 1, math.MaxInt - 7, math.MaxInt} {
			if n, next, ok := impl.DecodeQuic(s, at); n != 0 || next != 0 || ok {
				t.Errorf("DecodeQuic(%q, %d) = %d, %d, %v, want nothing", s, at, n, next, ok)
			}
			if impl.IsShortest(s, at) {
				t.Errorf("IsShortest(%q, %d) is true outside the string", s, at)
			}
		}
	}
}

func TestQuicsExamples(t *testing.T) {
	cases := []struct {
		l    []int
		want string
	}{
		{nil, ""},
		{[]int{}, ""},
		{[]int{0}, "\x00"},
		{[]int{1, 300}, "\x01\x41\x2c"},
		{[]int{16384, 0, 63, 64}, "\x80\x00\x40\x00\x00\x3f\x40\x40"},
		{[]int{impl.MaxQuic, 5}, "\xff\xff\xff\xff\xff\xff\xff\xff\x05"},
	}
	for _, c := range cases {
		if got := impl.EncodeQuics(c.l); got != c.want {
			t.Errorf("EncodeQuics(%v) = %q, want %q", c.l, got, c.want)
		}
		if got, ok := impl.DecodeQuics(c.want); !slices.Equal(got, c.l) || !ok {
			t.Errorf("DecodeQuics(%q) = %v, %v, want %v", c.want, got, ok, c.l)
		}
	}
}

func TestQuicsInverse(t *testing.T) {
	var l []int
	for _, n := range edgeInts() {
		if shortestSize(n) > 0 {
			l = append(l, n)
		}
	}
	given := slices.Clone(l)
	s := impl.EncodeQuics(l)
	if !slices.Equal(l, given) {
		t.Fatal("EncodeQuics changed its argument")
	}
	if got, ok := impl.DecodeQuics(s); !slices.Equal(got, l) || !ok {
		t.Errorf("DecodeQuics of EncodeQuics(%v) = %v, %v", l, got, ok)
	}
}

// Any form counts, so the string of a list is not the only one that is read as that list.
func TestQuicsLongerForms(t *testing.T) {
	cases := []struct {
		s    string
		want []int
	}{
		{"\x40\x05", []int{5}},
		{"\x05\x40\x05\x80\x00\x00\x05\x05", []int{5, 5, 5, 5}},
		{"\xc0\x00\x00\x00\x00\x00\x00\x00\x00", []int{0, 0}},
	}
	for _, c := range cases {
		if got, ok := impl.DecodeQuics(c.s); !slices.Equal(got, c.want) || !ok {
			t.Errorf("DecodeQuics(%q) = %v, %v, want %v", c.s, got, ok, c.want)
		}
	}
}

// A list is written whole or not at all, and a string is read whole or not at all.
func TestQuicsInvalid(t *testing.T) {
	for _, bad := range []int{-1, math.MinInt, impl.MaxQuic + 1, math.MaxInt} {
		for _, l := range [][]int{{bad}, {bad, 1}, {1, bad}, {1, bad, 2}} {
			if got := impl.EncodeQuics(l); got != "" {
				t.Errorf("EncodeQuics(%v) = %q, want nothing", l, got)
			}
		}
	}
	for _, s := range []string{"\x40", "\x01\x41", "\x01\x41\x2c\x80", "\x80\x00\x00", "\x00\xc0\x00\x00\x00\x00\x00\x00"} {
		if l, ok := impl.DecodeQuics(s); len(l) != 0 || ok {
			t.Errorf("DecodeQuics(%q) = %v, %v, want nothing", s, l, ok)
		}
	}
}
