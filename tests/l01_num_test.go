package tests

import (
	"math"
	"strings"
	"testing"

	"loop.example/g01633/impl"
)

// edgeInts returns the numbers around every power of two, both signs, and the ends of int.
func edgeInts() []int {
	l := []int{0, math.MaxInt, math.MinInt, math.MinInt + 1}
	for bit := range 63 {
		for d := -1; d <= 1; d++ {
			l = append(l, 1<<bit+d, -(1<<bit)+d)
		}
	}
	return l
}

// everyShortString calls f for all strings of at most two bytes.
func everyShortString(f func(s string)) {
	f("")
	for a := range 256 {
		f(string([]byte{byte(a)}))
		for b := range 256 {
			f(string([]byte{byte(a), byte(b)}))
		}
	}
}

func TestFixedExamples(t *testing.T) {
	cases := []struct {
		n, width int
		want     string
	}{
		{258, 2, "\x01\x02"},
		{0, 1, "\x00"},
		{255, 1, "\xff"},
		{1, 3, "\x00\x00\x01"},
		{0x01020304050607, 7, "\x01\x02\x03\x04\x05\x06\x07"},
		{1<<56 - 1, 7, "\xff\xff\xff\xff\xff\xff\xff"},
	}
	for _, c := range cases {
		if got := impl.EncodeFixed(c.n, c.width); got != c.want {
			t.Errorf("EncodeFixed(%d, %d) = %q, want %q", c.n, c.width, got, c.want)
		}
	}
}

func TestFixedInverse(t *testing.T) {
	for width := 1; width <= 7; width++ {
		for _, n := range edgeInts() {
			s := impl.EncodeFixed(n, width)
			if n < 0 || n >= 1<<(8*width) {
				if s != "" {
					t.Errorf("EncodeFixed(%d, %d) = %q, want nothing", n, width, s)
				}
				continue
			}
			if len(s) != width {
				t.Fatalf("EncodeFixed(%d, %d) has %d bytes", n, width, len(s))
			}
			for _, tail := range []string{"", "\x00", "\xff\xff"} {
				if got, ok := impl.DecodeFixed(s+tail, width); got != n || !ok {
					t.Errorf("DecodeFixed(%q, %d) = %d, %v, want %d", s+tail, width, got, ok, n)
				}
			}
		}
	}
}

func TestFixedInvalid(t *testing.T) {
	for _, width := range []int{math.MinInt, -8, -1, 0, 8, 9, 64, math.MaxInt} {
		if got := impl.EncodeFixed(0, width); got != "" {
			t.Errorf("EncodeFixed(0, %d) = %q", width, got)
		}
		if n, ok := impl.DecodeFixed("12345678901234567890", width); n != 0 || ok {
			t.Errorf("DecodeFixed with width %d = %d, %v", width, n, ok)
		}
	}
	for width := 1; width <= 7; width++ {
		for size := range width {
			s := strings.Repeat("\x01", size)
			if n, ok := impl.DecodeFixed(s, width); n != 0 || ok {
				t.Errorf("DecodeFixed(%q, %d) = %d, %v", s, width, n, ok)
			}
		}
	}
}

func TestVarintExamples(t *testing.T) {
	cases := []struct {
		n    int
		want string
	}{
		{0, "\x00"},
		{127, "\x7f"},
		{128, "\x80\x01"},
		{300, "\xac\x02"},
		{16383, "\xff\x7f"},
		{16384, "\x80\x80\x01"},
		{impl.MaxVarint, "\xff\xff\xff\xff\xff\xff\x7f"},
	}
	for _, c := range cases {
		if got := impl.EncodeVarint(c.n); got != c.want {
			t.Errorf("EncodeVarint(%d) = %q, want %q", c.n, got, c.want)
		}
	}
}

func TestVarintInverse(t *testing.T) {
	for _, n := range edgeInts() {
		s := impl.EncodeVarint(n)
		if n < 0 || n > impl.MaxVarint {
			if s != "" {
				t.Errorf("EncodeVarint(%d) = %q, want nothing", n, s)
			}
			continue
		}
		for _, tail := range []string{"", "\x00", "\x80", "\xff\xff"} {
			if got, size := impl.DecodeVarint(s + tail); got != n || size != len(s) {
				t.Errorf("DecodeVarint(%q) = %d, %d, want %d, %d", s+tail, got, size, n, len(s))
			}
		}
		for cut := range len(s) {
			if got, size := impl.DecodeVarint(s[:cut]); got != 0 || size != 0 {
				t.Errorf("DecodeVarint(%q) = %d, %d for a part of a varint", s[:cut], got, size)
			}
		}
	}
}

// Whatever DecodeVarint accepts must be what EncodeVarint writes.
func TestVarintShortStrings(t *testing.T) {
	accepted := 0
	everyShortString(func(s string) {
		n, size := impl.DecodeVarint(s)
		if size == 0 {
			if n != 0 {
				t.Errorf("DecodeVarint(%q) = %d, 0", s, n)
			}
			return
		}
		if impl.EncodeVarint(n) != s[:size] {
			t.Errorf("DecodeVarint(%q) = %d, %d, which is not the encoding", s, n, size)
		}
		accepted++
	})
	// 128 of one byte, each of them also before any byte, and 128 * 127 of two bytes.
	if want := 128 + 128*256 + 128*127; accepted != want {
		t.Errorf("%d strings are varints, want %d", accepted, want)
	}
}

func TestVarintInvalid(t *testing.T) {
	cases := []string{
		"",
		"\x80",
		"\x80\x00",
		"\x81\x00",
		"\xff\x00",
		"\x80\x80\x00",
		"\xac\x82\x00",
		"\xff\xff\xff\xff\xff\xff\x00",
		"\xff\xff\xff\xff\xff\xff\xff",
		"\x80\x80\x80\x80\x80\x80\x80\x01",
		"\xff\xff\xff\xff\xff\xff\xff\x00",
		"\xff\xff\xff\xff\xff\xff\xff\xff\xff\x01",
		strings.Repeat("\x80", 100) + "\x01",
	}
	for _, s := range cases {
		if n, size := impl.DecodeVarint(s); n != 0 || size != 0 {
			t.Errorf("DecodeVarint(%q) = %d, %d, want 0, 0", s, n, size)
		}
	}
}

func TestHexExamples(t *testing.T) {
	cases := []struct{ s, want string }{
		{"", ""},
		{"a\xff", "61ff"},
		{"\x00\x0f\xf0", "000ff0"},
		{"\x01\x23\x45\x67\x89\xab\xcd\xef", "0123456789abcdef"},
		{"é", "c3a9"},
	}
	for _, c := range cases {
		if got := impl.EncodeHex(c.s); got != c.want {
			t.Errorf("EncodeHex(%q) = %q, want %q", c.s, got, c.want)
		}
		if got, ok := impl.DecodeHex(c.want); got != c.s || !ok {
			t.Errorf("DecodeHex(%q) = %q, %v, want %q", c.want, got, ok, c.s)
		}
	}
}

func TestHexInverse(t *testing.T) {
	accepted := 0
	everyShortString(func(s string) {
		if got, ok := impl.DecodeHex(impl.EncodeHex(s)); got != s || !ok {
			t.Errorf("DecodeHex of EncodeHex(%q) = %q, %v", s, got, ok)
		}
		got, ok := impl.DecodeHex(s)
		if !ok {
			if got != "" {
				t.Errorf("DecodeHex(%q) = %q, false", s, got)
			}
			return
		}
		if impl.EncodeHex(got) != s {
			t.Errorf("DecodeHex(%q) = %q, which has another encoding", s, got)
		}
		accepted++
	})
	if want := 1 + 256; accepted != want {
		t.Errorf("%d strings are hexadecimal, want %d", accepted, want)
	}
}

func TestHexInvalid(t *testing.T) {
	cases := []string{"0", "012", "6F", "F6", "0g", "g0", "0x61", " 61", "61 ", "61\n", "6\xff", "\xff6", "é", "é0", "00é", "61\x00\x00", "٣٣"}
	for _, s := range cases {
		if got, ok := impl.DecodeHex(s); got != "" || ok {
			t.Errorf("DecodeHex(%q) = %q, %v, want nothing", s, got, ok)
		}
	}
}

func TestIntExamples(t *testing.T) {
	cases := []struct {
		n    int
		want string
	}{
		{0, "0"},
		{-7, "-7"},
		{-120, "-120"},
		{1000000000, "1000000000"},
		{math.MaxInt, "9223372036854775807"},
		{math.MinInt, "-9223372036854775808"},
	}
	for _, c := range cases {
		if got := impl.FormatInt(c.n); got != c.want {
			t.Errorf("FormatInt(%d) = %q, want %q", c.n, got, c.want)
		}
	}
}

func TestIntInverse(t *testing.T) {
	ints := append(edgeInts(), 7, -7, 100, -100, 999999998, 999999999, 1000000000, -999999999, -1000000000)
	for _, n := range ints {
		got, ok := impl.ParseInt(impl.FormatInt(n))
		if n < -999999999 || n > 999999999 {
			if got != 0 || ok {
				t.Errorf("ParseInt of FormatInt(%d) = %d, %v, want none", n, got, ok)
			}
			continue
		}
		if got != n || !ok {
			t.Errorf("ParseInt of FormatInt(%d) = %d, %v", n, got, ok)
		}
	}
}

// Whatever ParseInt accepts must be what FormatInt writes.
func TestIntShortStrings(t *testing.T) {
	accepted := 0
	everyShortString(func(s string) {
		n, ok := impl.ParseInt(s)
		if !ok {
			if n != 0 {
				t.Errorf("ParseInt(%q) = %d, false", s, n)
			}
			return
		}
		if impl.FormatInt(n) != s {
			t.Errorf("ParseInt(%q) = %d, which has another format", s, n)
		}
		accepted++
	})
	if want := 10 + 90 + 9; accepted != want {
		t.Errorf("%d strings are numbers, want %d", accepted, want)
	}
}

func TestIntInvalid(t *testing.T) {
	cases := []string{
		"", "-", "--1", "-0", "00", "01", "07", "-07", "+1", " 1", "1 ", "1\n", "1_0", "0x1", "1.0", "1e3", "٣",
		"000000000", "0000000001", "1000000000", "-1000000000", "9223372036854775807", "-9223372036854775808",
		"18446744073709551616", "99999999999999999999999999", "\x00", "1\x00", "\xff",
	}
	for _, s := range cases {
		if n, ok := impl.ParseInt(s); n != 0 || ok {
			t.Errorf("ParseInt(%q) = %d, %v, want 0, false", s, n, ok)
		}
	}
}
