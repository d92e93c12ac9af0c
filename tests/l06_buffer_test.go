package tests

import (
	"math"
	"slices"
	"strings"
	"testing"

	"loop.example/g01633/impl"
)

// byteTable is the model of a buffer: for each place from base on the byte there, or noByte, and the index of the next one to read.
type byteTable struct {
	base  int
	next  int
	bytes []int
}

const noByte = -1

// newTable returns a table of some places without bytes.
func newTable(base int, next int, places int) byteTable {
	return byteTable{base: base, next: next, bytes: slices.Repeat([]int{noByte}, places)}
}

// buffer returns the buffer of the table: one chunk for each run of bytes.
func (m byteTable) buffer() impl.Buffer {
	out := impl.Buffer{Next: m.base + m.next}
	for i := m.next; i < len(m.bytes); i++ {
		if m.bytes[i] == noByte {
			continue
		}
		if i == m.next || m.bytes[i-1] == noByte {
			out.Chunks = append(out.Chunks, impl.Chunk{Offset: m.base + i})
		}
		out.Chunks[len(out.Chunks)-1].Data += string([]byte{byte(m.bytes[i])})
	}
	return out
}

// insert returns the table with data from an index on.
func (m byteTable) insert(index int, data string) byteTable {
	m.bytes = slices.Clone(m.bytes)
	for i := range len(data) {
		if index+i >= m.next && m.bytes[index+i] == noByte {
			m.bytes[index+i] = int(data[i])
		}
	}
	return m
}

// take returns the bytes from the next one to the first gap, at most most, and the table behind them.
func (m byteTable) take(most int) (string, byteTable) {
	taken := ""
	for m.next < len(m.bytes) && m.bytes[m.next] != noByte && len(taken) < most {
		taken += string([]byte{byte(m.bytes[m.next])})
		m.next++
	}
	return taken, m
}

// smallPlaces is the number of places of which the tests try every table.
const smallPlaces = 7

// everySmallTable calls f for the tables with a base, all next places, and all sets of places that have a capital letter.
func everySmallTable(base int, f func(m byteTable)) {
	for next := range smallPlaces + 1 {
		for set := range 1 << smallPlaces {
			if set&(1<<next-1) != 0 {
				continue
			}
			m := newTable(base, next, smallPlaces)
			for i := range smallPlaces {
				if set>>i&1 == 1 {
					m.bytes[i] = 'A' + i
				}
			}
			f(m)
		}
	}
}

// tableBases put the small tables at the beginning and at the end of the places.
var tableBases = []int{0, 1, 1000, impl.MaxQuic - smallPlaces}

// chunk is a short way to write a chunk.
func chunk(offset int, data string) impl.Chunk {
	return impl.Chunk{Offset: offset, Data: data}
}

// bufferOf is a short way to write a buffer.
func bufferOf(next int, chunks ...impl.Chunk) impl.Buffer {
	return impl.Buffer{Next: next, Chunks: chunks}
}

// sameBuffer compares buffers without the program.
func sameBuffer(a impl.Buffer, b impl.Buffer) bool {
	return a.Next == b.Next && slices.Equal(a.Chunks, b.Chunks)
}

// invalidBuffers are buffers that are not valid, each for another reason.
func invalidBuffers() []impl.Buffer {
	return []impl.Buffer{
		bufferOf(-1),
		bufferOf(math.MinInt),
		bufferOf(impl.MaxQuic + 1),
		bufferOf(math.MaxInt),
		bufferOf(-1, chunk(3, "ab")),
		bufferOf(-5, chunk(-5, "ab")),
		bufferOf(math.MinInt, chunk(3, "ab")),
		bufferOf(impl.MaxQuic+1, chunk(impl.MaxQuic+1, "a")),
		bufferOf(0, chunk(0, "")),
		bufferOf(0, chunk(4, "")),
		bufferOf(0, chunk(0, "ab"), chunk(4, "")),
		bufferOf(0, chunk(0, ""), chunk(4, "ab")),
		bufferOf(3, chunk(2, "a")),
		bufferOf(3, chunk(2, "abc")),
		bufferOf(3, chunk(0, "abc"), chunk(4, "ab")),
		bufferOf(0, chunk(-1, "ab")),
		bufferOf(0, chunk(-4, "ab")),
		bufferOf(0, chunk(math.MinInt, "ab")),
		bufferOf(0, chunk(1, "ab"), chunk(3, "cd")),
		bufferOf(0, chunk(1, "ab"), chunk(2, "cd")),
		bufferOf(0, chunk(1, "ab"), chunk(1, "ab")),
		bufferOf(0, chunk(1, "abcdef"), chunk(2, "x")),
		bufferOf(0, chunk(5, "ab"), chunk(1, "cd")),
		bufferOf(0, chunk(5, "ab"), chunk(-1, "cd")),
		bufferOf(0, chunk(0, "ab"), chunk(4, "cd"), chunk(6, "ef")),
		bufferOf(0, chunk(impl.MaxQuic, "a")),
		bufferOf(0, chunk(impl.MaxQuic-1, "ab")),
		bufferOf(0, chunk(0, "ab"), chunk(impl.MaxQuic-1, "ab")),
		bufferOf(0, chunk(math.MaxInt, "a")),
		bufferOf(0, chunk(math.MaxInt-1, "abcd")),
		bufferOf(0, chunk(0, "ab"), chunk(math.MaxInt, "ab")),
		bufferOf(impl.MaxQuic, chunk(impl.MaxQuic, "a")),
	}
}

// guardedBuffer returns a copy of a buffer that has unused capacity, and a function that reports whether a part of its memory was changed.
func guardedBuffer(b impl.Buffer) (impl.Buffer, func() bool) {
	rest := chunk(-77, "guard")
	whole := append(slices.Clone(b.Chunks), rest, rest, rest)
	before := slices.Clone(whole)
	return impl.Buffer{Next: b.Next, Chunks: whole[:len(b.Chunks)]}, func() bool { return !slices.Equal(whole, before) }
}

// scribbleChunks overwrites all memory of a list of chunks.
func scribbleChunks(l []impl.Chunk) {
	l = l[:cap(l)]
	for i := range l {
		l[i] = chunk(-99, "scribble")
	}
}

// checkBuffer reports a buffer that is not the wanted one.
func checkBuffer(t *testing.T, what string, got impl.Buffer, want impl.Buffer) {
	t.Helper()
	if !sameBuffer(got, want) {
		t.Errorf("%s: %v, want %v", what, got, want)
	}
}

// checkInsert reports an insertion that does not give the wanted buffer, changes its argument, or shares memory with it.
func checkInsert(t *testing.T, b impl.Buffer, offset int, data string, want impl.Buffer) {
	t.Helper()
	b, changed := guardedBuffer(b)
	got := impl.InsertData(b, offset, data)
	if !sameBuffer(got, want) {
		t.Errorf("InsertData(%v, %d, %q) = %v, want %v", b, offset, data, got, want)
	}
	scribbleChunks(got.Chunks)
	if changed() {
		t.Errorf("InsertData(%v, %d, %q) changes its argument or shares its memory", b, offset, data)
	}
}

// checkTake is checkInsert for TakeBytes.
func checkTake(t *testing.T, b impl.Buffer, most int, taken string, want impl.Buffer) {
	t.Helper()
	b, changed := guardedBuffer(b)
	gotTaken, got := impl.TakeBytes(b, most)
	if gotTaken != taken || !sameBuffer(got, want) {
		t.Errorf("TakeBytes(%v, %d) = %q and %v, want %q and %v", b, most, gotTaken, got, taken, want)
	}
	scribbleChunks(got.Chunks)
	if changed() {
		t.Errorf("TakeBytes(%v, %d) changes its argument or shares its memory", b, most)
	}
}

// Two chunks are valid exactly if they are what the table of their bytes gives.
func TestIsBufferPairs(t *testing.T) {
	valid := 0
	check := func(b impl.Buffer) {
		m := newTable(0, max(0, b.Next), 20)
		for _, c := range b.Chunks {
			if c.Offset >= 0 {
				m = m.insert(c.Offset, c.Data)
			}
		}
		want := sameBuffer(b, m.buffer())
		if got := impl.IsBuffer(b); got != want {
			t.Errorf("IsBuffer(%v) = %v", b, got)
		}
		if want {
			valid++
		}
	}
	everyChunk := func(f func(c impl.Chunk)) {
		for offset := -2; offset <= 6; offset++ {
			for size := range 4 {
				f(chunk(offset, "abc"[:size]))
			}
		}
	}
	for next := -1; next <= 6; next++ {
		check(bufferOf(next))
		everyChunk(func(a impl.Chunk) {
			check(bufferOf(next, a))
			everyChunk(func(b impl.Chunk) { check(bufferOf(next, a, b)) })
		})
	}
	if valid < 100 {
		t.Errorf("only %d valid buffers were tried", valid)
	}
}

func TestIsBufferLimits(t *testing.T) {
	valid := []impl.Buffer{
		{},
		bufferOf(impl.MaxQuic),
		bufferOf(impl.MaxQuic-1, chunk(impl.MaxQuic-1, "a")),
		bufferOf(0, chunk(impl.MaxQuic-1, "a")),
		bufferOf(0, chunk(0, "a"), chunk(2, "\x00"), chunk(impl.MaxQuic-2, "ab")),
	}
	for _, b := range valid {
		if !impl.IsBuffer(b) {
			t.Errorf("IsBuffer(%v) = false", b)
		}
	}
	for _, b := range invalidBuffers() {
		if impl.IsBuffer(b) {
			t.Errorf("IsBuffer(%v) = true", b)
		}
	}
}

// Every small table, with data at every place and of every length, at the beginning and at the end of the places.
func TestInsertDataSmall(t *testing.T) {
	for _, base := range tableBases {
		everySmallTable(base, func(m byteTable) {
			for index := range smallPlaces {
				for size := range smallPlaces - index + 1 {
					data := "abcdefg"[index:][:size]
					checkInsert(t, m.buffer(), base+index, data, m.insert(index, data).buffer())
				}
			}
		})
	}
}

func TestInsertDataOverTwoChunks(t *testing.T) {
	two := bufferOf(0, chunk(3, "DEF"), chunk(8, "IJ"))
	cases := []struct {
		offset int
		data   string
		want   impl.Buffer
	}{
		// From before the first chunk to behind the second one.
		{1, "bcdefghijkl", bufferOf(0, chunk(1, "bcDEFghIJkl"))},
		// From within the first chunk to within the second one.
		{4, "efghi", bufferOf(0, chunk(3, "DEFghIJ"))},
		// Only the last byte of the first chunk and the first one of the second.
		{5, "fghi", bufferOf(0, chunk(3, "DEFghIJ"))},
		// Only the gap, and what touches from before and from behind.
		{6, "gh", bufferOf(0, chunk(3, "DEFghIJ"))},
		{6, "g", bufferOf(0, chunk(3, "DEFg"), chunk(8, "IJ"))},
		{7, "h", bufferOf(0, chunk(3, "DEF"), chunk(7, "hIJ"))},
		{0, "abcdefghij", bufferOf(0, chunk(0, "abcDEFghIJ"))},
		{2, "cdefgh", bufferOf(0, chunk(2, "cDEFghIJ"))},
		{2, "cdefg", bufferOf(0, chunk(2, "cDEFg"), chunk(8, "IJ"))},
		{5, "fghijkl", bufferOf(0, chunk(3, "DEFghIJkl"))},
		{10, "kl", bufferOf(0, chunk(3, "DEF"), chunk(8, "IJkl"))},
		{11, "l", bufferOf(0, chunk(3, "DEF"), chunk(8, "IJ"), chunk(11, "l"))},
		{3, "def", two},
		{4, "e", two},
		{9, "j", two},
	}
	for _, c := range cases {
		checkInsert(t, two, c.offset, c.data, c.want)
	}
	// The same chunks with bytes that were read: those before Next do not come back.
	checkInsert(t, bufferOf(2, two.Chunks...), 0, "abcdefghi", bufferOf(2, chunk(2, "cDEFghIJ")))
	checkInsert(t, bufferOf(3, two.Chunks...), 1, "bcdefg", bufferOf(3, chunk(3, "DEFg"), chunk(8, "IJ")))
}

// More than two chunks are joined, and those before and behind stay.
func TestInsertDataOverManyChunks(t *testing.T) {
	b := bufferOf(1, chunk(1, "B"), chunk(3, "D"), chunk(5, "FG"), chunk(9, "J"), chunk(11, "L"), chunk(15, "PQ"))
	checkInsert(t, b, 4, "efghijkl", bufferOf(1, chunk(1, "B"), chunk(3, "DeFGhiJkL"), chunk(15, "PQ")))
	checkInsert(t, b, 0, "abcdefghijklmnopqr", bufferOf(1, chunk(1, "BcDeFGhiJkLmnoPQr")))
	checkInsert(t, b, 13, "n", bufferOf(1, chunk(1, "B"), chunk(3, "D"), chunk(5, "FG"), chunk(9, "J"), chunk(11, "L"), chunk(13, "n"), chunk(15, "PQ")))
}

func TestInsertDataUnchanged(t *testing.T) {
	b := bufferOf(5, chunk(5, "FG"), chunk(9, "J"))
	unchanged := func(b impl.Buffer, offset int, data string) {
		t.Helper()
		checkInsert(t, b, offset, data, b)
	}
	for _, offset := range append(edgeInts(), 0, 4, 5, 6, 7, 8, 9, 10, 11, impl.MaxQuic-1, impl.MaxQuic, impl.MaxQuic+1) {
		unchanged(b, offset, "")
		unchanged(impl.Buffer{}, offset, "")
	}
	for _, offset := range []int{-1, -2, -5, -1000, math.MinInt, math.MinInt + 1} {
		unchanged(b, offset, "abcdefghijkl")
		unchanged(impl.Buffer{}, offset, "abcdefghijkl")
		unchanged(bufferOf(impl.MaxQuic), offset, "abcdefghijkl")
	}
	for offset := range 5 {
		unchanged(b, offset, "abcde"[offset:])
		unchanged(b, offset, "a")
	}
	for _, offset := range []int{impl.MaxQuic - 2, impl.MaxQuic - 1, impl.MaxQuic, impl.MaxQuic + 1, math.MaxInt - 3, math.MaxInt - 2, math.MaxInt - 1, math.MaxInt} {
		unchanged(b, offset, "abc")
		unchanged(impl.Buffer{}, offset, "abc")
		unchanged(bufferOf(impl.MaxQuic), offset, "abc")
	}
	unchanged(bufferOf(impl.MaxQuic), impl.MaxQuic-3, "abc")
	for _, b := range invalidBuffers() {
		for _, offset := range append(edgeInts(), 0, 1, 2, 3, 4, 7, impl.MaxQuic-3) {
			unchanged(b, offset, "")
			unchanged(b, offset, "abc")
		}
	}
}

func TestInsertDataLimits(t *testing.T) {
	checkInsert(t, impl.Buffer{}, 0, "a", bufferOf(0, chunk(0, "a")))
	checkInsert(t, impl.Buffer{}, impl.MaxQuic-3, "abc", bufferOf(0, chunk(impl.MaxQuic-3, "abc")))
	checkInsert(t, bufferOf(impl.MaxQuic-1), impl.MaxQuic-3, "abc", bufferOf(impl.MaxQuic-1, chunk(impl.MaxQuic-1, "c")))
	checkInsert(t, bufferOf(3), 0, "abcd", bufferOf(3, chunk(3, "d")))
	checkInsert(t, bufferOf(0, chunk(impl.MaxQuic-1, "Z")), impl.MaxQuic-3, "xyz", bufferOf(0, chunk(impl.MaxQuic-3, "xyZ")))
	// All bytes count as bytes, not as letters.
	checkInsert(t, bufferOf(0, chunk(1, "\xff")), 0, "\x00\x80\xc3", bufferOf(0, chunk(0, "\x00\xff\xc3")))
	checkInsert(t, bufferOf(0, chunk(1, "\x00")), 0, "ü!", bufferOf(0, chunk(0, "\xc3\x00!")))
}

func TestReadyBytesSmall(t *testing.T) {
	for _, base := range tableBases {
		everySmallTable(base, func(m byteTable) {
			b, changed := guardedBuffer(m.buffer())
			ready, _ := m.take(math.MaxInt)
			if got := impl.ReadyBytes(b); got != len(ready) || changed() {
				t.Errorf("ReadyBytes(%v) = %d, want %d", b, got, len(ready))
			}
		})
	}
	for _, b := range invalidBuffers() {
		if got := impl.ReadyBytes(b); got != 0 {
			t.Errorf("ReadyBytes(%v) = %d", b, got)
		}
	}
}

func TestTakeBytesSmall(t *testing.T) {
	mosts := []int{math.MinInt, -2, -1, math.MaxInt - 1, math.MaxInt}
	for most := range smallPlaces + 2 {
		mosts = append(mosts, most)
	}
	for _, base := range tableBases {
		everySmallTable(base, func(m byteTable) {
			for _, most := range mosts {
				taken, rest := m.take(most)
				checkTake(t, m.buffer(), most, taken, rest.buffer())
			}
		})
	}
}

func TestTakeBytesExamples(t *testing.T) {
	b := bufferOf(2, chunk(2, "cde"), chunk(7, "h"))
	checkTake(t, b, 2, "cd", bufferOf(4, chunk(4, "e"), chunk(7, "h")))
	checkTake(t, b, 3, "cde", bufferOf(5, chunk(7, "h")))
	checkTake(t, b, 9, "cde", bufferOf(5, chunk(7, "h")))
	checkTake(t, b, 0, "", b)
	checkTake(t, b, -1, "", b)
	checkTake(t, bufferOf(5, chunk(7, "h")), 9, "", bufferOf(5, chunk(7, "h")))
	checkTake(t, impl.Buffer{}, 9, "", impl.Buffer{})
	checkTake(t, bufferOf(impl.MaxQuic-2, chunk(impl.MaxQuic-2, "yz")), math.MaxInt, "yz", bufferOf(impl.MaxQuic))
	for _, b := range invalidBuffers() {
		for _, most := range []int{math.MinInt, -1, 0, 1, 9, math.MaxInt} {
			checkTake(t, b, most, "", b)
		}
	}
}

func TestBufferRanges(t *testing.T) {
	for _, base := range tableBases {
		everySmallTable(base, func(m byteTable) {
			var set uint
			for i, c := range m.bytes {
				if c != noByte {
					set |= 1 << i
				}
			}
			want := rangesOf(set)
			for i := range want {
				want[i] = span(base+want[i].Low, base+want[i].High)
			}
			b, changed := guardedBuffer(m.buffer())
			got := impl.BufferRanges(b)
			checkRanges(t, "BufferRanges", got, want)
			if changed() || !impl.IsRanges(got) {
				t.Errorf("BufferRanges(%v) = %v", b, got)
			}
		})
	}
	for _, b := range invalidBuffers() {
		checkRanges(t, "BufferRanges of a buffer that is not valid", impl.BufferRanges(b), nil)
	}
}

func TestByteAtSmall(t *testing.T) {
	for _, base := range tableBases {
		everySmallTable(base, func(m byteTable) {
			b, changed := guardedBuffer(m.buffer())
			for index := -2; index < smallPlaces+2; index++ {
				want := noByte
				if index >= 0 && index < smallPlaces {
					want = m.bytes[index]
				}
				if got := impl.ByteAt(b, base+index); got != want || changed() {
					t.Errorf("ByteAt(%v, %d) = %d, want %d", b, base+index, got, want)
				}
			}
		})
	}
}

// ByteAt looks into any chunks, valid or not.
func TestByteAtAnyChunks(t *testing.T) {
	cases := []struct {
		b      impl.Buffer
		offset int
		want   int
	}{
		{bufferOf(0, chunk(0, "\x00\x7f\x80\xff")), 0, 0},
		{bufferOf(0, chunk(0, "\x00\x7f\x80\xff")), 1, 127},
		{bufferOf(0, chunk(0, "\x00\x7f\x80\xff")), 2, 128},
		{bufferOf(0, chunk(0, "\x00\x7f\x80\xff")), 3, 255},
		// The first chunk that has the place, not the one that begins first.
		{bufferOf(0, chunk(2, "abc"), chunk(3, "xyz")), 3, 'b'},
		{bufferOf(0, chunk(2, "abc"), chunk(3, "xyz")), 5, 'z'},
		{bufferOf(0, chunk(3, "xyz"), chunk(2, "abc")), 3, 'x'},
		{bufferOf(0, chunk(3, "xyz"), chunk(2, "abc")), 2, 'a'},
		{bufferOf(0, chunk(9, "x"), chunk(2, "ab")), 3, 'b'},
		{bufferOf(0, chunk(2, ""), chunk(2, "ab")), 2, 'a'},
		{bufferOf(0, chunk(2, "ab"), chunk(2, "xyz")), 3, 'b'},
		{bufferOf(0, chunk(2, "ab"), chunk(2, "xyz")), 4, 'z'},
		// Places before Next, and a Next that is not valid.
		{bufferOf(5, chunk(2, "abcdef")), 2, 'a'},
		{bufferOf(-1, chunk(2, "ab")), 2, 'a'},
		{bufferOf(impl.MaxQuic+1, chunk(2, "ab")), 3, 'b'},
		// Chunks with a negative offset do not count, even where they reach a place from 0 on.
		{bufferOf(0, chunk(-1, "abc")), -1, noByte},
		{bufferOf(0, chunk(-1, "abc")), 0, noByte},
		{bufferOf(0, chunk(-1, "abc")), 1, noByte},
		{bufferOf(0, chunk(-1, "abc"), chunk(1, "x")), 1, 'x'},
		{bufferOf(0, chunk(math.MinInt, "abc")), math.MinInt, noByte},
		{bufferOf(0, chunk(math.MinInt, "abc")), math.MaxInt, noByte},
		// Chunks that end behind MaxQuic and behind the greatest int.
		{bufferOf(0, chunk(impl.MaxQuic, "ab")), impl.MaxQuic + 1, 'b'},
		{bufferOf(0, chunk(math.MaxInt-1, "abcd")), math.MaxInt - 2, noByte},
		{bufferOf(0, chunk(math.MaxInt-1, "abcd")), math.MaxInt - 1, 'a'},
		{bufferOf(0, chunk(math.MaxInt-1, "abcd")), math.MaxInt, 'b'},
		{bufferOf(0, chunk(math.MaxInt-1, "abcd")), math.MinInt, noByte},
		{bufferOf(0, chunk(math.MaxInt, "abcd")), math.MinInt, noByte},
		{bufferOf(0, chunk(0, "abcd")), math.MinInt, noByte},
		{bufferOf(0, chunk(0, "abcd")), -1, noByte},
		{bufferOf(0, chunk(0, "abcd")), 4, noByte},
		{bufferOf(0, chunk(0, "abcd")), math.MaxInt, noByte},
		{impl.Buffer{}, 0, noByte},
	}
	for _, c := range cases {
		if got := impl.ByteAt(c.b, c.offset); got != c.want {
			t.Errorf("ByteAt(%v, %d) = %d, want %d", c.b, c.offset, got, c.want)
		}
	}
}

func TestEndOf(t *testing.T) {
	for _, base := range tableBases {
		everySmallTable(base, func(m byteTable) {
			want := m.next
			for i, c := range m.bytes {
				if c != noByte {
					want = i + 1
				}
			}
			b, changed := guardedBuffer(m.buffer())
			if got := impl.EndOf(b); got != base+want || changed() {
				t.Errorf("EndOf(%v) = %d, want %d", b, got, base+want)
			}
		})
	}
	for _, b := range invalidBuffers() {
		if got := impl.EndOf(b); got != b.Next {
			t.Errorf("EndOf(%v) = %d", b, got)
		}
	}
}

func TestEqualBuffers(t *testing.T) {
	buffers := []impl.Buffer{
		{},
		bufferOf(2),
		bufferOf(2, chunk(2, "ab")),
		bufferOf(1, chunk(2, "ab")),
		bufferOf(2, chunk(3, "ab")),
		bufferOf(2, chunk(2, "abc")),
		bufferOf(2, chunk(2, "aB")),
		bufferOf(2, chunk(2, "ab"), chunk(6, "x")),
		bufferOf(2, chunk(2, "ab"), chunk(7, "x")),
		bufferOf(2, chunk(2, "ab"), chunk(6, "y")),
		bufferOf(2, chunk(6, "x"), chunk(2, "ab")),
		// Buffers that are not valid: the same bytes in other chunks, and chunks without bytes.
		bufferOf(2, chunk(2, "a"), chunk(3, "b")),
		bufferOf(2, chunk(2, "ab"), chunk(4, "")),
		bufferOf(2, chunk(0, "")),
		bufferOf(0, chunk(0, "")),
		bufferOf(math.MinInt),
		bufferOf(math.MaxInt, chunk(math.MaxInt, "ab")),
		bufferOf(-3, chunk(math.MinInt, "ab")),
	}
	for i, a := range buffers {
		for j, b := range buffers {
			a, changedA := guardedBuffer(a)
			b, changedB := guardedBuffer(b)
			if got := impl.EqualBuffers(a, b); got != (i == j) || changedA() || changedB() {
				t.Errorf("EqualBuffers(%v, %v) = %v", a, b, got)
			}
		}
	}
	empty := impl.Buffer{Chunks: []impl.Chunk{}}
	if !impl.EqualBuffers(impl.Buffer{}, empty) || !impl.EqualBuffers(empty, impl.Buffer{}) {
		t.Error("a buffer with a nil list equals one with an empty list")
	}
}

// A long history of insertions and reads gives the bytes that came first at each place, in order, each once.
func TestBufferHistory(t *testing.T) {
	const places = 600
	for seed := range uint32(20) {
		m := newTable(0, 0, places)
		first := slices.Repeat([]int{noByte}, places)
		var b impl.Buffer
		var read strings.Builder
		draw := seed
		below := func(n int) int {
			draw = draw*1664525 + 1013904223
			return int(draw>>8) % n
		}
		for range 900 {
			// Data comes near the next place to read, also before it.
			index := min(places-1, max(0, m.next+below(60)-20))
			data := make([]byte, below(min(25, places-index)+1))
			for i := range data {
				data[i] = byte(below(256))
				if first[index+i] == noByte {
					first[index+i] = int(data[i])
				}
			}
			m = m.insert(index, string(data))
			b = impl.InsertData(b, index, string(data))
			checkBuffer(t, "InsertData", b, m.buffer())
			most := below(12)
			if ready := impl.ReadyBytes(b); ready > 0 && impl.ByteAt(b, b.Next) != first[b.Next] {
				t.Fatalf("the byte at %d is %d, but %d came first", b.Next, impl.ByteAt(b, b.Next), first[b.Next])
			}
			got, rest := impl.TakeBytes(b, most)
			taken, behind := m.take(most)
			if got != taken {
				t.Fatalf("TakeBytes = %q, want %q", got, taken)
			}
			checkBuffer(t, "TakeBytes", rest, behind.buffer())
			b, m = rest, behind
			read.WriteString(got)
		}
		if read.Len() != b.Next || b.Next < places/2 {
			t.Errorf("%d bytes were read, and the next place is %d", read.Len(), b.Next)
		}
		for i, c := range []byte(read.String()) {
			if int(c) != first[i] {
				t.Errorf("at %d, %d was read, but %d came first", i, c, first[i])
			}
		}
	}
}
