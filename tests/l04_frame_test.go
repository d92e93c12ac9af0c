package tests

import (
	"math"
	"slices"
	"strings"
	"testing"

	"loop.example/g01633/impl"
)

// wireType says what the document says about one type: the kind, the flag that the type sets, and what follows it, a letter each:
// s Stream, o Offset, n the length of Data, d Data, c Code, f Final, m Limit.
type wireType struct {
	kind  int
	fin   bool
	uni   bool
	parts string
}

var wireTypes = map[byte]wireType{
	4:  {kind: impl.KindReset, parts: "scf"},
	5:  {kind: impl.KindStop, parts: "sc"},
	8:  {kind: impl.KindStream, parts: "sd"},
	9:  {kind: impl.KindStream, parts: "sd", fin: true},
	10: {kind: impl.KindStream, parts: "snd"},
	11: {kind: impl.KindStream, parts: "snd", fin: true},
	12: {kind: impl.KindStream, parts: "sod"},
	13: {kind: impl.KindStream, parts: "sod", fin: true},
	14: {kind: impl.KindStream, parts: "sond"},
	15: {kind: impl.KindStream, parts: "sond", fin: true},
	16: {kind: impl.KindMaxData, parts: "m"},
	17: {kind: impl.KindMaxStreamData, parts: "sm"},
	18: {kind: impl.KindMaxStreams, parts: "m"},
	19: {kind: impl.KindMaxStreams, parts: "m", uni: true},
	20: {kind: impl.KindDataBlocked, parts: "m"},
	21: {kind: impl.KindStreamDataBlocked, parts: "sm"},
	22: {kind: impl.KindStreamsBlocked, parts: "m"},
	23: {kind: impl.KindStreamsBlocked, parts: "m", uni: true},
}

var kindNames = map[int]string{
	impl.KindReset:             "reset",
	impl.KindStop:              "stop",
	impl.KindStream:            "stream",
	impl.KindMaxData:           "maxdata",
	impl.KindMaxStreamData:     "maxstreamdata",
	impl.KindMaxStreams:        "maxstreams",
	impl.KindDataBlocked:       "datablocked",
	impl.KindStreamDataBlocked: "streamdatablocked",
	impl.KindStreamsBlocked:    "streamsblocked",
}

// kindUses says which fields a kind uses, with the letters of wireType, and F for Fin and U for Uni.
var kindUses = map[int]string{
	impl.KindReset:             "scf",
	impl.KindStop:              "sc",
	impl.KindStream:            "sodF",
	impl.KindMaxData:           "m",
	impl.KindMaxStreamData:     "sm",
	impl.KindMaxStreams:        "mU",
	impl.KindDataBlocked:       "m",
	impl.KindStreamDataBlocked: "sm",
	impl.KindStreamsBlocked:    "mU",
}

// numberOf returns the place of the number with the given letter.
func numberOf(f *impl.Frame, letter rune) *int {
	return map[rune]*int{'s': &f.Stream, 'o': &f.Offset, 'c': &f.Code, 'f': &f.Final, 'm': &f.Limit}[letter]
}

// leastSize returns a size in which n can be written: the given one, or a larger one if it has to be.
func leastSize(n int, size int) int {
	return max(size, shortestSize(n))
}

// spell writes the parts of a frame behind a type, with integers of at least the given size.
func spell(mark byte, f impl.Frame, size int) string {
	out := string([]byte{mark})
	for _, letter := range wireTypes[mark].parts {
		switch letter {
		case 'd':
			out += f.Data
		case 'n':
			out += longForm(len(f.Data), leastSize(len(f.Data), size))
		default:
			n := *numberOf(&f, letter)
			out += longForm(n, leastSize(n, size))
		}
	}
	return out
}

// typesOf returns the types with which a frame can be written, the one that EncodeFrame takes first.
func typesOf(f impl.Frame) []byte {
	var out []byte
	for mark := byte(23); mark > 0; mark-- {
		w := wireTypes[mark]
		if w.kind != f.Kind || w.fin != f.Fin || w.uni != f.Uni || f.Offset != 0 && !strings.Contains(w.parts, "o") {
			continue
		}
		out = append(out, mark)
	}
	// With a length is before without one, and without an offset of 0 is before with one.
	slices.SortStableFunc(out, func(a byte, b byte) int { return rank(f, a) - rank(f, b) })
	return out
}

func rank(f impl.Frame, mark byte) int {
	parts, out := wireTypes[mark].parts, 0
	if f.Kind == impl.KindStream && !strings.Contains(parts, "n") {
		out += 2
	}
	if f.Offset == 0 && strings.Contains(parts, "o") {
		out++
	}
	return out
}

// readForm reads a quic integer as the document states it.
func readForm(s string, at int) (int, int, bool) {
	if at >= len(s) {
		return 0, 0, false
	}
	size := quicSizes[s[at]>>6]
	if at+size > len(s) {
		return 0, 0, false
	}
	n := int(s[at] & 63)
	for i := 1; i < size; i++ {
		n = n*256 + int(s[at+i])
	}
	return n, at + size, true
}

// readWire reads the frame at the beginning of a string as the tables of this file state it, but for its limits.
func readWire(s string) (impl.Frame, int, bool) {
	if s == "" || wireTypes[s[0]].kind == 0 {
		return impl.Frame{}, 0, false
	}
	w := wireTypes[s[0]]
	f := impl.Frame{Kind: w.kind, Fin: w.fin, Uni: w.uni}
	at, size := 1, -1
	for _, letter := range w.parts {
		if letter == 'd' {
			if size < 0 {
				size = len(s) - at
			}
			if size > len(s)-at {
				return impl.Frame{}, 0, false
			}
			f.Data = s[at : at+size]
			at += size
			continue
		}
		n, next, ok := readForm(s, at)
		if !ok {
			return impl.Frame{}, 0, false
		}
		at = next
		if letter == 'n' {
			size = n
		} else {
			*numberOf(&f, letter) = n
		}
	}
	return f, at, true
}

// frameNumbers are numbers on both sides of each limit of a form, and the ends.
var frameNumbers = []int{0, 1, 63, 64, 16383, 16384, 1073741823, 1073741824, impl.MaxCount, impl.MaxQuic - 400, impl.MaxQuic}

// validFrames returns frames of all kinds, with all pairs of values of their fields.
func validFrames() []impl.Frame {
	var out []impl.Frame
	for _, a := range frameNumbers {
		for _, b := range frameNumbers {
			out = append(out,
				impl.Frame{Kind: impl.KindReset, Stream: a, Code: b, Final: 7},
				impl.Frame{Kind: impl.KindReset, Stream: 7, Code: a, Final: b},
				impl.Frame{Kind: impl.KindStop, Stream: a, Code: b},
				impl.Frame{Kind: impl.KindMaxStreamData, Stream: a, Limit: b},
				impl.Frame{Kind: impl.KindStreamDataBlocked, Stream: a, Limit: b})
			for size, data := range []string{"", "a", "\x00", "\x10\x05", strings.Repeat("\xff", 63), strings.Repeat("z", 64), strings.Repeat("\x00", impl.MaxPayload)} {
				f := impl.Frame{Kind: impl.KindStream, Stream: a, Offset: b, Data: data, Fin: size%2 == 0}
				if b > impl.MaxQuic-len(data) {
					f.Offset = impl.MaxQuic - len(data)
				}
				out = append(out, f)
				f.Fin = !f.Fin
				out = append(out, f)
			}
		}
		out = append(out, impl.Frame{Kind: impl.KindMaxData, Limit: a}, impl.Frame{Kind: impl.KindDataBlocked, Limit: a})
		for _, uni := range []bool{false, true} {
			most := min(a, impl.MaxCount)
			out = append(out,
				impl.Frame{Kind: impl.KindMaxStreams, Limit: most, Uni: uni},
				impl.Frame{Kind: impl.KindStreamsBlocked, Limit: most, Uni: uni})
		}
	}
	return out
}

// invalidFrames are frames that are not valid, each for another reason.
func invalidFrames() []impl.Frame {
	out := []impl.Frame{
		{},
		{Stream: 4, Data: "a"},
		{Kind: 9, Stream: 4},
		{Kind: 10, Stream: 4, Data: "a"},
		{Kind: 19, Limit: 5, Uni: true},
		{Kind: 23, Limit: 5},
		{Kind: impl.KindStream, Offset: impl.MaxQuic, Data: "a"},
		{Kind: impl.KindStream, Offset: impl.MaxQuic - 1, Data: "ab"},
		{Kind: impl.KindStream, Offset: impl.MaxQuic - 399, Data: strings.Repeat("a", 400)},
		{Kind: impl.KindStream, Data: strings.Repeat("a", 401)},
		{Kind: impl.KindMaxStreams, Limit: impl.MaxCount + 1},
		{Kind: impl.KindMaxStreams, Limit: impl.MaxCount + 1, Uni: true},
		{Kind: impl.KindStreamsBlocked, Limit: impl.MaxCount + 1},
		{Kind: impl.KindStreamsBlocked, Limit: impl.MaxQuic, Uni: true},
	}
	for _, kind := range []int{math.MinInt, -4, 0, 1, 3, 6, 7, 9, 11, 15, 19, 23, 24, 260, 264, math.MaxInt} {
		out = append(out, impl.Frame{Kind: kind}, impl.Frame{Kind: kind, Stream: 4}, impl.Frame{Kind: kind, Limit: 4})
	}
	for kind := range kindNames {
		for _, letter := range "socfm" {
			for _, n := range []int{math.MinInt, -1, impl.MaxQuic + 1, math.MaxInt} {
				f := impl.Frame{Kind: kind}
				*numberOf(&f, letter) = n
				out = append(out, f)
			}
		}
	}
	return out
}

func TestFrameExamples(t *testing.T) {
	cases := []struct {
		f    impl.Frame
		want string
	}{
		{impl.Frame{Kind: impl.KindReset}, "\x04\x00\x00\x00"},
		{impl.Frame{Kind: impl.KindReset, Stream: 4, Code: 1, Final: 300}, "\x04\x04\x01\x41\x2c"},
		{impl.Frame{Kind: impl.KindStop, Stream: 64, Code: 7}, "\x05\x40\x40\x07"},
		{impl.Frame{Kind: impl.KindStream}, "\x0a\x00\x00"},
		{impl.Frame{Kind: impl.KindStream, Stream: 4, Data: "hi"}, "\x0a\x04\x02hi"},
		{impl.Frame{Kind: impl.KindStream, Stream: 4, Data: "hi", Fin: true}, "\x0b\x04\x02hi"},
		{impl.Frame{Kind: impl.KindStream, Stream: 4, Offset: 300, Data: "hi"}, "\x0e\x04\x41\x2c\x02hi"},
		{impl.Frame{Kind: impl.KindStream, Stream: 4, Offset: 1, Fin: true}, "\x0f\x04\x01\x00"},
		{impl.Frame{Kind: impl.KindStream, Data: strings.Repeat("a", 64)}, "\x0a\x00\x40\x40" + strings.Repeat("a", 64)},
		{impl.Frame{Kind: impl.KindMaxData, Limit: 16384}, "\x10\x80\x00\x40\x00"},
		{impl.Frame{Kind: impl.KindMaxStreamData, Stream: 4, Limit: 8}, "\x11\x04\x08"},
		{impl.Frame{Kind: impl.KindMaxStreams, Limit: 5}, "\x12\x05"},
		{impl.Frame{Kind: impl.KindMaxStreams, Limit: 5, Uni: true}, "\x13\x05"},
		{impl.Frame{Kind: impl.KindMaxStreams, Limit: impl.MaxCount}, "\x12\xd0\x00\x00\x00\x00\x00\x00\x00"},
		{impl.Frame{Kind: impl.KindDataBlocked, Limit: impl.MaxQuic}, "\x14\xff\xff\xff\xff\xff\xff\xff\xff"},
		{impl.Frame{Kind: impl.KindStreamDataBlocked, Stream: 4, Limit: 8}, "\x15\x04\x08"},
		{impl.Frame{Kind: impl.KindStreamsBlocked}, "\x16\x00"},
		{impl.Frame{Kind: impl.KindStreamsBlocked, Uni: true}, "\x17\x00"},
	}
	for _, c := range cases {
		if got := impl.EncodeFrame(c.f); got != c.want {
			t.Errorf("EncodeFrame(%+v) = %q, want %q", c.f, got, c.want)
		}
		if f, next, ok := impl.DecodeFrame(c.want, 0); f != c.f || next != len(c.want) || !ok {
			t.Errorf("DecodeFrame(%q, 0) = %+v, %d, %v, want %+v", c.want, f, next, ok, c.f)
		}
	}
}

// What is written is the document's form of the frame, and is read again as this frame, wherever it stands; no part of it is a frame.
func TestFrameInverse(t *testing.T) {
	for _, f := range validFrames() {
		s := impl.EncodeFrame(f)
		if want := spell(typesOf(f)[0], f, 1); !impl.IsFrame(f) || s != want || impl.FrameSize(f) != len(want) {
			t.Fatalf("EncodeFrame(%+v) = %q of size %d, want %q", f, s, impl.FrameSize(f), want)
		}
		for _, head := range []string{"", "\x00", "\x08\x04"} {
			for _, tail := range []string{"", "\x00", "\xff\xff"} {
				whole, at := head+s+tail, len(head)
				if got, next, ok := impl.DecodeFrame(whole, at); got != f || next != at+len(s) || !ok {
					t.Fatalf("DecodeFrame(%q, %d) = %+v, %d, %v, want %+v", whole, at, got, next, ok, f)
				}
			}
		}
		for cut := range min(len(s), 40) {
			checkNoFrame(t, s[:cut], 0)
		}
		checkNoFrame(t, s[:len(s)-1], 0)
	}
}

// The integers may have any form, and a stream frame may have an offset of 0 or lack its length.
func TestFrameOtherForms(t *testing.T) {
	for _, f := range validFrames() {
		for _, mark := range typesOf(f) {
			for _, size := range quicSizes {
				s := spell(mark, f, size)
				if got, next, ok := impl.DecodeFrame("\x10"+s, 1); got != f || next != 1+len(s) || !ok {
					t.Fatalf("DecodeFrame(%q, 1) = %+v, %d, %v, want %+v", "\x10"+s, got, next, ok, f)
				}
			}
		}
	}
}

// checkNoFrame reports a frame that is read where there is none.
func checkNoFrame(t *testing.T, s string, at int) {
	t.Helper()
	if f, next, ok := impl.DecodeFrame(s, at); f != (impl.Frame{}) || next != 0 || ok {
		t.Errorf("DecodeFrame(%q, %d) = %+v, %d, %v, want nothing", s, at, f, next, ok)
	}
}

// Without a length, a stream frame has all bytes up to the end of the string, whatever they are.
func TestStreamFrameWithoutLength(t *testing.T) {
	long := strings.Repeat("x", impl.MaxPayload)
	for _, data := range []string{"", "h", "hi", "\x00", "\x00\x00\x00", "\x10\x05", "\x0a\x04\x01a", "\xff\xff", "\x04", long, strings.Repeat("\x00", impl.MaxPayload)} {
		cases := map[string]impl.Frame{
			"\x08\x04" + data:                     {Kind: impl.KindStream, Stream: 4, Data: data},
			"\x09\x04" + data:                     {Kind: impl.KindStream, Stream: 4, Data: data, Fin: true},
			"\x0c\x04\x07" + data:                 {Kind: impl.KindStream, Stream: 4, Offset: 7, Data: data},
			"\x0d\x04\x07" + data:                 {Kind: impl.KindStream, Stream: 4, Offset: 7, Data: data, Fin: true},
			"\x0c\x04\x00" + data:                 {Kind: impl.KindStream, Stream: 4, Data: data},
			"\x0d\x40\x04\x80\x00\x00\x07" + data: {Kind: impl.KindStream, Stream: 4, Offset: 7, Data: data, Fin: true},
		}
		for s, want := range cases {
			if f, next, ok := impl.DecodeFrame(s, 0); f != want || next != len(s) || !ok {
				t.Errorf("DecodeFrame(%q, 0) = %+v, %d, %v, want %+v", s, f, next, ok, want)
			}
			if len(s) > impl.MaxPayload {
				continue
			}
			l, ok := impl.DecodePayload("\x00" + s)
			if len(l) != 1 || l[0] != want || ok != (len(s) < impl.MaxPayload) {
				t.Errorf("DecodePayload(%q) = %+v, %v, want %+v", "\x00"+s, l, ok, want)
			}
		}
	}
	for _, s := range []string{"\x08\x04" + long + "x", "\x0d\x04\x01" + long + "x", "\x08", "\x09\x40", "\x0c\x04", "\x0d\x04\x40", "\x0c\x04\xff\xff\xff\xff\xff\xff\xff\xff" + "a"} {
		checkNoFrame(t, s, 0)
	}
	if f, _, ok := impl.DecodeFrame("\x0c\x04\xff\xff\xff\xff\xff\xff\xff\xff", 0); !ok || f.Offset != impl.MaxQuic || f.Data != "" {
		t.Errorf("the greatest offset, without data: %+v, %v", f, ok)
	}
}

// Of all strings of at most two bytes, and of longer ones with all first bytes, exactly the document's frames are read.
func TestFrameEveryType(t *testing.T) {
	checkRead := func(s string) {
		f, next, ok := readWire(s)
		if !ok || !impl.IsFrame(f) {
			checkNoFrame(t, s, 0)
			return
		}
		if got, behind, read := impl.DecodeFrame(s, 0); got != f || behind != next || !read {
			t.Errorf("DecodeFrame(%q, 0) = %+v, %d, %v, want %+v, %d", s, got, behind, read, f, next)
		}
	}
	everyShortString(checkRead)
	some := []string{"", "\x00", "\x01", "\x02", "\x3f", "\x40", "\x41\x2c", "\x7f", "\x80", "\x80\x00\x00\x02", "\xc0", "\xff", "\xd0\x00\x00\x00\x00\x00\x00\x00", "\xd0\x00\x00\x00\x00\x00\x00\x01", "\xff\xff\xff\xff\xff\xff\xff\xff"}
	for mark := range 256 {
		for _, a := range some {
			for _, b := range some {
				for _, c := range some {
					checkRead(string([]byte{byte(mark)}) + a + b + c)
				}
			}
		}
	}
}

func TestDecodeFrameInvalid(t *testing.T) {
	cases := []string{
		"", "\x00", "\x01", "\x06\x00\x00", "\x07\x00", "\x18\x00", "\x44\x04\x00\x00\x00", "\x40\x10\x05", "\x80\x00\x00\x10\x05", "\xff\x00\x00",
		"\x04\x04\x01", "\x04\x04\x01\x40", "\x05\x04", "\x10", "\x10\x40", "\x11\x04", "\x13", "\x15\x04\xc0",
		"\x0a", "\x0a\x04", "\x0a\x04\x03hi", "\x0e\x04\x02", "\x0f\x04\x01\x40",
		// Lengths that are far beyond the end of the string.
		"\x0a\x04\xff\xff\xff\xff\xff\xff\xff\xffhi", "\x0f\x04\x01\xff\xff\xff\xff\xff\xff\xff\xff",
		// Data beyond the limits.
		"\x0a\x04\x41\x91" + strings.Repeat("a", 401),
		"\x0f\x04\xff\xff\xff\xff\xff\xff\xff\xff\x01a",
		// Numbers of streams beyond the limit.
		"\x12\xff\xff\xff\xff\xff\xff\xff\xff", "\x13\xd0\x00\x00\x00\x00\x00\x00\x01", "\x16\xd0\x00\x00\x00\x00\x00\x00\x01", "\x17\xff\xff\xff\xff\xff\xff\xff\xff",
	}
	for _, s := range cases {
		checkNoFrame(t, s, 0)
		checkNoFrame(t, "\x10\x05"+s, 2)
	}
	for _, s := range []string{"", "\x10\x05", "\x0a\x04\x02hi", "\x08\x04"} {
		for _, at := range []int{math.MinInt, -2, -1, len(s), len(s) + 1, math.MaxInt} {
			checkNoFrame(t, s, at)
		}
	}
}

func TestIsFrameInvalid(t *testing.T) {
	for _, f := range invalidFrames() {
		if impl.IsFrame(f) || impl.EncodeFrame(f) != "" || impl.FrameSize(f) != 0 {
			t.Errorf("%+v: IsFrame %v, EncodeFrame %q, FrameSize %d", f, impl.IsFrame(f), impl.EncodeFrame(f), impl.FrameSize(f))
		}
	}
}

// A field may be set exactly if the kind uses it.
func TestIsFrameUses(t *testing.T) {
	for kind, uses := range kindUses {
		fields := map[string]impl.Frame{
			"":  {Kind: kind},
			"s": {Kind: kind, Stream: 1},
			"o": {Kind: kind, Offset: 1},
			"d": {Kind: kind, Data: "\x00"},
			"F": {Kind: kind, Fin: true},
			"c": {Kind: kind, Code: 1},
			"m": {Kind: kind, Limit: 1},
			"f": {Kind: kind, Final: 1},
			"U": {Kind: kind, Uni: true},
		}
		for letter, f := range fields {
			want := strings.Contains(uses, letter)
			if impl.IsFrame(f) != want || (impl.EncodeFrame(f) != "") != want {
				t.Errorf("IsFrame(%+v) = %v, EncodeFrame = %q", f, impl.IsFrame(f), impl.EncodeFrame(f))
			}
		}
	}
}

func TestKindName(t *testing.T) {
	numbers := edgeInts()
	for n := range 600 {
		numbers = append(numbers, n-300)
	}
	for _, n := range numbers {
		if got := impl.KindName(n); got != kindNames[n] {
			t.Errorf("KindName(%d) = %q, want %q", n, got, kindNames[n])
		}
		if got, want := impl.IsAboutStream(impl.Frame{Kind: n}), strings.Contains(kindUses[n], "s"); got != want {
			t.Errorf("IsAboutStream of the kind %d = %v", n, got)
		}
		if got, want := impl.IsAboutStream(impl.Frame{Kind: n, Stream: 4, Limit: 4}), strings.Contains(kindUses[n], "s"); got != want {
			t.Errorf("IsAboutStream of the kind %d with a stream = %v", n, got)
		}
	}
}

// somePayload is a list of frames of all kinds.
func somePayload() []impl.Frame {
	return []impl.Frame{
		{Kind: impl.KindMaxData, Limit: 5},
		{Kind: impl.KindStream, Stream: 4, Data: "hi", Fin: true},
		{Kind: impl.KindStream, Stream: 8, Offset: 300},
		{Kind: impl.KindStop, Stream: 4, Code: 7},
		{Kind: impl.KindReset, Stream: 4, Code: 1, Final: 9},
		{Kind: impl.KindMaxStreamData, Stream: 64, Limit: 16384},
		{Kind: impl.KindMaxStreams, Limit: impl.MaxCount, Uni: true},
		{Kind: impl.KindDataBlocked, Limit: impl.MaxQuic},
		{Kind: impl.KindStream, Stream: 4, Data: "\x00\x00\x10"},
		{Kind: impl.KindStreamDataBlocked, Stream: 4, Limit: 8},
		{Kind: impl.KindStreamsBlocked},
	}
}

// checkPayload reports a string that is not read as the wanted frames.
func checkPayload(t *testing.T, s string, want []impl.Frame, wantOk bool) {
	t.Helper()
	if l, ok := impl.DecodePayload(s); !slices.Equal(l, want) || ok != wantOk {
		t.Errorf("DecodePayload(%q) = %+v, %v, want %+v, %v", s, l, ok, want, wantOk)
	}
}

func TestPayloadInverse(t *testing.T) {
	all := somePayload()
	for from := range all {
		for to := from + 1; to <= len(all); to++ {
			whole := slices.Clone(all[from:])
			l := whole[:to-from]
			s, want := impl.EncodePayload(l), ""
			for _, f := range l {
				want += spell(typesOf(f)[0], f, 1)
			}
			if s != want || !slices.Equal(whole, all[from:]) {
				t.Fatalf("EncodePayload(%+v) = %q, want %q", l, s, want)
			}
			checkPayload(t, s, l, true)
			checkPayload(t, "\x00\x00"+s+"\x00", l, true)
		}
	}
	for _, f := range validFrames() {
		l := []impl.Frame{f}
		s := impl.EncodePayload(l)
		if impl.FrameSize(f) > impl.MaxPayload {
			if s != "" {
				t.Errorf("EncodePayload(%+v) has %d bytes", l, len(s))
			}
			continue
		}
		if s != impl.EncodeFrame(f) {
			t.Errorf("EncodePayload(%+v) = %q", l, s)
		}
		checkPayload(t, s, l, true)
	}
}

// Any number of bytes 0 may be between the frames, but they do not end the data of a frame without a length.
func TestPayloadPadding(t *testing.T) {
	l := somePayload()
	for pad := range 20 {
		zeros := strings.Repeat("\x00", pad)
		s := zeros
		for _, f := range l {
			s += impl.EncodeFrame(f) + zeros
		}
		checkPayload(t, s, l, len(s) <= impl.MaxPayload)
		checkPayload(t, zeros, nil, pad > 0)
	}
	checkPayload(t, "\x10\x05\x00\x08\x04hi\x00\x00", []impl.Frame{{Kind: impl.KindMaxData, Limit: 5}, {Kind: impl.KindStream, Stream: 4, Data: "hi\x00\x00"}}, true)
	checkPayload(t, "\x09\x04\x10\x05\x18", []impl.Frame{{Kind: impl.KindStream, Stream: 4, Data: "\x10\x05\x18", Fin: true}}, true)
	checkPayload(t, "\x08\x04", []impl.Frame{{Kind: impl.KindStream, Stream: 4}}, true)
	// A byte 0 within a frame is a part of it.
	checkPayload(t, "\x10\x00\x10\x05", []impl.Frame{{Kind: impl.KindMaxData}, {Kind: impl.KindMaxData, Limit: 5}}, true)
}

// A string of MaxPayload bytes is a payload; a longer one is none, but its frames are read.
func TestPayloadSize(t *testing.T) {
	two := impl.Frame{Kind: impl.KindMaxData, Limit: 5}
	for _, count := range []int{1, 199, 200, 201, 500} {
		l := slices.Repeat([]impl.Frame{two}, count)
		s, whole := impl.EncodePayload(l), strings.Repeat("\x10\x05", count)
		if want := count <= 200; want != (s == whole) || !want && s != "" {
			t.Errorf("EncodePayload of %d frames with 2 bytes has %d bytes", count, len(s))
		}
		checkPayload(t, whole, l, count <= 200)
	}
	for _, size := range []int{395, 396, 397, 398} {
		f := impl.Frame{Kind: impl.KindStream, Stream: 4, Data: strings.Repeat("d", size)}
		if s := impl.EncodePayload([]impl.Frame{f}); (s != "") != (size <= 396) {
			t.Errorf("EncodePayload of %d bytes of data has %d bytes", size, len(s))
		}
		checkPayload(t, impl.EncodeFrame(f), []impl.Frame{f}, size <= 396)
	}
	for _, size := range []int{0, 1, 399, 400, 401, 1000} {
		checkPayload(t, strings.Repeat("\x00", size), nil, size > 0 && size <= 400)
	}
	checkPayload(t, strings.Repeat("\x00", 398)+"\x10\x05", []impl.Frame{two}, true)
	checkPayload(t, strings.Repeat("\x00", 399)+"\x10\x05", []impl.Frame{two}, false)
	checkPayload(t, strings.Repeat("\x00", 399)+"\x10", nil, false)
	checkPayload(t, "\x08\x04"+strings.Repeat("d", 398), []impl.Frame{{Kind: impl.KindStream, Stream: 4, Data: strings.Repeat("d", 398)}}, true)
	checkPayload(t, "\x08\x04"+strings.Repeat("d", 400), []impl.Frame{{Kind: impl.KindStream, Stream: 4, Data: strings.Repeat("d", 400)}}, false)
	checkPayload(t, "\x08\x04"+strings.Repeat("d", 401), nil, false)
}

// One frame that is not valid keeps the whole list from being written, and one that cannot be read the whole string from being read.
func TestPayloadInvalid(t *testing.T) {
	for _, l := range [][]impl.Frame{nil, {}} {
		if s := impl.EncodePayload(l); s != "" {
			t.Errorf("EncodePayload(%+v) = %q", l, s)
		}
	}
	checkPayload(t, "", nil, false)
	good := somePayload()
	for _, f := range invalidFrames() {
		for _, l := range [][]impl.Frame{{f}, {f, good[0]}, {good[0], f}, {good[0], f, good[1]}} {
			if s := impl.EncodePayload(l); s != "" {
				t.Errorf("EncodePayload(%+v) = %q, want nothing", l, s)
			}
		}
	}
	for place := range len(good) + 1 {
		head, tail := impl.EncodePayload(good[:place]), impl.EncodePayload(good[place:])
		for _, bad := range []string{"\x01", "\x06\x00\x00", "\x18", "\x40\x10", "\xff", "\x12\xff\xff\xff\xff\xff\xff\xff\xff", "\x0f\x04\xff\xff\xff\xff\xff\xff\xff\xff\x01a"} {
			checkPayload(t, head+bad+tail, nil, false)
			checkPayload(t, "\x00"+head+"\x00"+bad, nil, false)
		}
		for _, part := range []string{"\x04\x04\x01", "\x05\x04", "\x0a\x04\x03hi", "\x10", "\x11\x04\x80"} {
			checkPayload(t, head+part, nil, false)
		}
	}
}

// The frames of one result are not those of another one.
func TestPayloadResultsAreNew(t *testing.T) {
	s := impl.EncodePayload(somePayload())
	first, _ := impl.DecodePayload(s)
	second, _ := impl.DecodePayload(s)
	for i := range first {
		first[i] = impl.Frame{Kind: -1}
	}
	if !slices.Equal(second, somePayload()) {
		t.Errorf("two results share memory: %+v", second)
	}
}
