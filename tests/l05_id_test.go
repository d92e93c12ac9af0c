package tests

import (
	"math"
	"testing"

	"loop.example/g01633/impl"
)

// idKind is one of the four kinds of streams: those that share the remainder of their identities by 4.
type idKind struct {
	rest   int
	server bool
	uni    bool
	name   string
}

// idKinds are written out here so that the tests do not depend on the bits in which the program looks.
var idKinds = []idKind{
	{0, false, false, "client bidi"},
	{1, true, false, "server bidi"},
	{2, false, true, "client uni"},
	{3, true, true, "server uni"},
}

// greatestIndex is the index of the greatest identity of each kind.
const greatestIndex = 1152921504606846975

// someIndices are the first indices, those around powers of two, and the last ones.
func someIndices() []int {
	var out []int
	for i := range 300 {
		out = append(out, i)
	}
	for shift := 9; shift < 60; shift++ {
		out = append(out, 1<<shift-1, 1<<shift, 1<<shift+1)
	}
	return append(out, greatestIndex-2, greatestIndex-1, greatestIndex)
}

// everyId calls f for the identities of some indices, of all kinds.
func everyId(f func(id int, index int, kind idKind)) {
	for _, index := range someIndices() {
		for _, kind := range idKinds {
			f(4*index+kind.rest, index, kind)
		}
	}
}

// noIds are numbers that are no identities.
func noIds() []int {
	out := []int{
		math.MinInt, math.MinInt + 1, math.MinInt + 2, math.MinInt + 3, math.MinInt / 2, -4611686018427387904,
		4611686018427387904, 4611686018427387905, 4611686018427387906, 4611686018427387907,
		math.MaxInt - 3, math.MaxInt - 2, math.MaxInt - 1, math.MaxInt,
	}
	for n := -1; n >= -16; n-- {
		out = append(out, n)
	}
	return out
}

// checkKind reports what the functions about the kind and the index of an identity get wrong.
func checkKind(t *testing.T, id int, index int, kind idKind) {
	t.Helper()
	if !impl.IsStreamId(id) {
		t.Errorf("IsStreamId(%d) is false", id)
	}
	if got := impl.IsServerId(id); got != kind.server {
		t.Errorf("IsServerId(%d) = %v", id, got)
	}
	if got := impl.IsUniId(id); got != kind.uni {
		t.Errorf("IsUniId(%d) = %v", id, got)
	}
	if got := impl.IndexOf(id); got != index {
		t.Errorf("IndexOf(%d) = %d, want %d", id, got, index)
	}
	if got := impl.NameOf(id); got != kind.name {
		t.Errorf("NameOf(%d) = %q, want %q", id, got, kind.name)
	}
	if got := impl.MakeId(index, kind.server, kind.uni); got != id {
		t.Errorf("MakeId(%d, %v, %v) = %d, want %d", index, kind.server, kind.uni, got, id)
	}
}

func TestIdExamples(t *testing.T) {
	cases := []struct {
		id, index, kind int
	}{
		{0, 0, 0}, {1, 0, 1}, {2, 0, 2}, {3, 0, 3},
		{4, 1, 0}, {5, 1, 1}, {6, 1, 2}, {7, 1, 3},
		{8, 2, 0}, {41, 10, 1}, {4002, 1000, 2}, {1023, 255, 3},
	}
	for _, c := range cases {
		checkKind(t, c.id, c.index, idKinds[c.kind])
	}
}

func TestIdKinds(t *testing.T) {
	everyId(func(id int, index int, kind idKind) {
		checkKind(t, id, index, kind)
	})
}

// The greatest identity is that of a stream in one direction that the server opened.
func TestGreatestId(t *testing.T) {
	const greatest = 4611686018427387903
	for i, kind := range idKinds {
		checkKind(t, greatest-3+i, greatestIndex, kind)
	}
	if got := impl.MakeId(impl.MaxCount-1, true, true); got != greatest {
		t.Errorf("MakeId(MaxCount-1, true, true) = %d, want %d", got, greatest)
	}
	if !impl.IsOwn(true, greatest) || impl.IsOwn(false, greatest) {
		t.Error("IsOwn: only the server opened the greatest identity")
	}
	if !impl.CanSendOn(true, greatest) || impl.CanSendOn(false, greatest) {
		t.Error("CanSendOn: only the server sends on the greatest identity")
	}
	if impl.CanReceiveOn(true, greatest) || !impl.CanReceiveOn(false, greatest) {
		t.Error("CanReceiveOn: only the client receives on the greatest identity")
	}
	checkNoId(t, greatest+1)
}

// The first columns say what the client may do, the others what the server may.
func TestIdDirectionExamples(t *testing.T) {
	cases := []struct {
		id                                   int
		clientOwn, clientSend, clientReceive bool
		serverOwn, serverSend, serverReceive bool
	}{
		{0, true, true, true, false, true, true},
		{1, false, true, true, true, true, true},
		{2, true, true, false, false, false, true},
		{3, false, false, true, true, true, false},
		{impl.MaxQuic - 3, true, true, true, false, true, true},
		{impl.MaxQuic - 2, false, true, true, true, true, true},
		{impl.MaxQuic - 1, true, true, false, false, false, true},
		{impl.MaxQuic, false, false, true, true, true, false},
	}
	for _, c := range cases {
		got := [6]bool{
			impl.IsOwn(false, c.id), impl.CanSendOn(false, c.id), impl.CanReceiveOn(false, c.id),
			impl.IsOwn(true, c.id), impl.CanSendOn(true, c.id), impl.CanReceiveOn(true, c.id),
		}
		want := [6]bool{c.clientOwn, c.clientSend, c.clientReceive, c.serverOwn, c.serverSend, c.serverReceive}
		if got != want {
			t.Errorf("own, send and receive of %d: %v, want %v", c.id, got, want)
		}
	}
}

func TestIdDirections(t *testing.T) {
	everyId(func(id int, index int, kind idKind) {
		for _, server := range []bool{false, true} {
			own := server == kind.server
			if got := impl.IsOwn(server, id); got != own {
				t.Errorf("IsOwn(%v, %d) = %v", server, id, got)
			}
			if got, want := impl.CanSendOn(server, id), !kind.uni || own; got != want {
				t.Errorf("CanSendOn(%v, %d) = %v", server, id, got)
			}
			if got, want := impl.CanReceiveOn(server, id), !kind.uni || !own; got != want {
				t.Errorf("CanReceiveOn(%v, %d) = %v", server, id, got)
			}
		}
	})
}

// What one endpoint may send, the other may receive; that holds for numbers that are no identities, too.
func TestIdBothEnds(t *testing.T) {
	check := func(id int) {
		for _, server := range []bool{false, true} {
			if impl.CanSendOn(server, id) != impl.CanReceiveOn(!server, id) {
				t.Errorf("CanSendOn(%v, %d) is not CanReceiveOn of the peer", server, id)
			}
		}
		if valid := impl.IsStreamId(id); (impl.IsOwn(true, id) != impl.IsOwn(false, id)) != valid {
			t.Errorf("IsOwn(%d): not exactly one endpoint opened it", id)
		}
	}
	everyId(func(id int, index int, kind idKind) { check(id) })
	for _, id := range noIds() {
		check(id)
	}
}

// checkNoId reports a function that takes a number for an identity.
func checkNoId(t *testing.T, id int) {
	t.Helper()
	if impl.IsStreamId(id) || impl.IsServerId(id) || impl.IsUniId(id) {
		t.Errorf("IsStreamId, IsServerId or IsUniId(%d) is true", id)
	}
	if got := impl.IndexOf(id); got != -1 {
		t.Errorf("IndexOf(%d) = %d, want -1", id, got)
	}
	if got := impl.NameOf(id); got != "" {
		t.Errorf("NameOf(%d) = %q, want the empty string", id, got)
	}
	for _, server := range []bool{false, true} {
		if impl.IsOwn(server, id) || impl.CanSendOn(server, id) || impl.CanReceiveOn(server, id) {
			t.Errorf("IsOwn, CanSendOn or CanReceiveOn(%v, %d) is true", server, id)
		}
	}
}

func TestNoIds(t *testing.T) {
	for _, id := range noIds() {
		checkNoId(t, id)
	}
	for _, id := range edgeInts() {
		if id < 0 || id > 4611686018427387903 {
			checkNoId(t, id)
		} else {
			checkKind(t, id, id/4, idKinds[id%4])
		}
	}
}

// Four times some of these indices is an identity again once it does not fit into an int.
func TestMakeIdInvalid(t *testing.T) {
	indices := []int{
		-1, -2, -4, -greatestIndex, -greatestIndex - 1, -greatestIndex - 2, math.MinInt, math.MinInt + 1, math.MinInt / 2,
		impl.MaxCount, impl.MaxCount + 1, impl.MaxCount + 5, 1 << 61, 1<<61 + 3, 1 << 62, 1<<62 + 1, 1<<62 + 7,
		impl.MaxQuic - 1, impl.MaxQuic, math.MaxInt - 1, math.MaxInt,
	}
	for _, index := range indices {
		for _, kind := range idKinds {
			if got := impl.MakeId(index, kind.server, kind.uni); got != -1 {
				t.Errorf("MakeId(%d, %v, %v) = %d, want -1", index, kind.server, kind.uni, got)
			}
		}
	}
}
