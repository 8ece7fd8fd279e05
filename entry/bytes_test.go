package entry_test

import (
	"bytes"
	"slices"
	"testing"

	"glebe/api"
	"glebe/entry"
	"glebe/point"
	"glebe/wire"
)

// P1102: the bytes of what may be, written out.
func TestPut(t *testing.T) {
	for _, x := range []struct {
		e    entry.Entry
		want string
	}{
		{entry.Entry{Kind: entry.Call, Op: point.Op{Kind: point.Get, Key: "k", Seq: 1}}, "\x01\x01\x00\x00\x01k\x00\x00\x01"},
		{entry.Entry{Kind: entry.Call, Op: point.Op{Kind: point.Put, At: api.Point{X: 300, Y: 2}, Key: "ab", Value: "v", Client: 7, Seq: 128}}, "\x01\x02\xac\x02\x02\x02ab\x01v\x07\x80\x01"},
		{entry.Entry{Kind: entry.Call, Op: point.Op{Kind: point.Del, Key: "k", Seq: 5}, Chain: []int{}}, "\x01\x03\x00\x00\x01k\x00\x00\x05"},
		{entry.Entry{Kind: entry.Add}, "\x02\x00"},
		{entry.Entry{Kind: entry.Add, Node: 7}, "\x02\x07"},
		{entry.Entry{Kind: entry.Drop}, "\x03\x00"},
		{entry.Entry{Kind: entry.Drop, Node: 7}, "\x03\x07"},
		{entry.Entry{Kind: entry.Split, Node: 2, Epoch: 1, By: 5, Chain: []int{2}}, "\x04\x02\x01\x05\x01\x02"},
		{entry.Entry{Kind: entry.Split, Node: 0, Epoch: 300, By: 7, Chain: []int{3, 0, 6}}, "\x04\x00\xac\x02\x07\x03\x03\x00\x06"},
		{entry.Entry{Kind: entry.Move, Node: 6, Epoch: lastEpoch, By: 0, Chain: []int{7, 6, 5, 4, 3, 2, 1}}, "\x05\x06\x80\x80\x80\x80\x80\x20\x00\x07\x07\x06\x05\x04\x03\x02\x01"},
	} {
		if b, e := entry.Put(x.e); e != api.OK || string(b) != x.want {
			t.Errorf("Put of %v: %q, %d, want %q", x.e, b, e, x.want)
		}
		if e := takes(t, []byte(x.want)); e != api.OK {
			t.Errorf("Take of %q: %d", x.want, e)
		}
		if e := takes(t, []byte(x.want+"\xff\x00behind")); e != api.OK {
			t.Errorf("Take of %q, with something behind: %d", x.want, e)
		}
	}
}

// P1102: the bytes of chains, written out.
func TestPutChain(t *testing.T) {
	for _, x := range []struct {
		l    []int
		want string
	}{
		{nil, "\x00"},
		{[]int{}, "\x00"},
		{[]int{0}, "\x01\x00"},
		{[]int{7}, "\x01\x07"},
		{[]int{3, 0, 6}, "\x03\x03\x00\x06"},
		{[]int{7, 6, 5, 4, 3, 2, 1, 0}, "\x08\x07\x06\x05\x04\x03\x02\x01\x00"},
	} {
		if b, e := entry.PutChain(x.l); e != api.OK || string(b) != x.want {
			t.Errorf("PutChain of %v: %q, %d, want %q", x.l, b, e, x.want)
		}
		for _, behind := range []string{"", "\x00", "\x01", "\xff\xff"} {
			if e := takesChain(t, []byte(x.want+behind)); e != api.OK {
				t.Errorf("TakeChain of %q, with %q behind: %d", x.want, behind, e)
			}
		}
	}
}

// ends: Take of these bytes ends so; with an error it is the zero entry.
func ends(t *testing.T, b []byte, want api.Errno) {
	t.Helper()
	if e := takes(t, b); e != want {
		t.Errorf("Take of %v: %d, want %d", b, e, want)
	}
}

// endsChain: likewise TakeChain, with an error nothing.
func endsChain(t *testing.T, b []byte, want api.Errno) {
	t.Helper()
	if e := takesChain(t, b); e != want {
		t.Errorf("TakeChain of %v: %d, want %d", b, e, want)
	}
}

// P1102: Take and TakeChain of each beginning of what was put.
func TestBeginnings(t *testing.T) {
	for _, e := range samples() {
		b, _ := entry.Put(e)
		for i := range b {
			ends(t, b[:i], api.ErrEnd)
		}
		ends(t, b, api.OK)
	}
	for _, l := range [][]int{nil, {0}, {7}, {5, 0, 7}, {7, 6, 5, 4, 3, 2, 1, 0}} {
		b, _ := entry.PutChain(l)
		for i := range b {
			endsChain(t, b[:i], api.ErrEnd)
		}
		endsChain(t, b, api.OK)
	}
}

// P1102: a count above MaxNodes is ErrForm at the count, whatever stands behind it; one that is not all there is ErrEnd.
func TestCountsThatMayNotBe(t *testing.T) {
	ahead := []byte{4, 2, 1, 5}
	for _, n := range []int{9, 10, 127, 128, 300, 1 << 32, lastNum, lastNum + 1, lastNum * 2} {
		for _, behind := range [][]byte{nil, {2}, {0, 1, 2, 3, 4, 5, 6, 7}, {0, 1, 2, 3, 4, 5, 6, 7, 0}, bytes.Repeat([]byte{2}, 300)} {
			b := slices.Concat(num(n), behind)
			endsChain(t, b, api.ErrForm)
			ends(t, slices.Concat(ahead, b), api.ErrForm)
		}
	}
	for _, b := range [][]byte{{}, {137}, {255, 255}, {128}} {
		endsChain(t, b, api.ErrEnd)
		ends(t, slices.Concat(ahead, b), api.ErrEnd)
	}
	endsChain(t, []byte{136, 0, 1, 2, 3, 4, 5, 6, 7, 0}, api.ErrForm)
	endsChain(t, []byte{8, 0, 1, 2, 3, 4, 5, 6, 7}, api.OK)
}

// P1102: nodes that are too great, or stand twice, at each place of a chain, of its own and of a Split's.
func TestTakeOfNodesThatMayNotBe(t *testing.T) {
	for i := range 4 {
		for _, n := range []int{8, 9, 127, 128, 256, 264, 1 << 32, lastNum} {
			l := slices.Insert([]int{2, 0, 7}, i, n)
			endsChain(t, chainBytes(l), api.ErrForm)
			endsChain(t, append(chainBytes(l), 1, 2), api.ErrForm)
			ends(t, written(entry.Entry{Kind: 4, Node: 2, Epoch: 1, By: 5, Chain: l}), api.ErrForm)
			ends(t, written(entry.Entry{Kind: 5, Node: n, Epoch: 1, By: 5, Chain: l}), api.ErrForm)
			ends(t, written(entry.Entry{Kind: 5, Node: 2, Epoch: 1, By: n, Chain: []int{2}}), api.ErrForm)
			ends(t, written(entry.Entry{Kind: 2, Node: n}), api.ErrForm)
			ends(t, written(entry.Entry{Kind: 3, Node: n}), api.ErrForm)
		}
		for _, n := range []int{2, 0, 7} {
			l := slices.Insert([]int{2, 0, 7}, i, n)
			endsChain(t, chainBytes(l), api.ErrForm)
			ends(t, written(entry.Entry{Kind: 4, Node: 2, Epoch: 1, By: 5, Chain: l}), api.ErrForm)
		}
	}
}

// P1102: a Kind that is none is ErrForm at once; one that is not all there is ErrEnd.
func TestTakeOfKindsThatAreNone(t *testing.T) {
	behind := []byte{2, 1, 5, 1, 2}
	for _, kind := range []int{0, 6, 7, 127, 128, 129, 257, 1<<32 + 2, lastNum, lastNum + 1} {
		for i := range len(behind) + 1 {
			ends(t, slices.Concat(num(kind), behind[:i]), api.ErrForm)
		}
		ends(t, append(num(kind), 128), api.ErrForm)
	}
	ends(t, nil, api.ErrEnd)
	ends(t, []byte{}, api.ErrEnd)
	ends(t, []byte{130}, api.ErrEnd)
	ends(t, []byte{130, 0, 3}, api.ErrForm)
}

// P1102: bytes that can be read as an entry, but one that may not be.
func TestTakeOfWhatMayNotBe(t *testing.T) {
	call := func(o point.Op) entry.Entry { return entry.Entry{Kind: 1, Op: o} }
	wrong := []entry.Entry{
		call(point.Op{Kind: 1}),
		call(point.Op{Kind: 0, Key: "k", Seq: 1}),
		call(point.Op{Kind: 4, Key: "k", Seq: 1}),
		call(point.Op{Kind: 1, Key: long(17), Seq: 1}),
		call(point.Op{Kind: 1, Key: "k", Value: "v", Seq: 1}),
		call(point.Op{Kind: 2, Key: "k", Value: long(33), Seq: 1}),
		call(point.Op{Kind: 1, Key: "k", Seq: lastSeq + 1}),
		call(point.Op{Kind: 1, Key: "k", Seq: 1, Client: 8}),
		call(point.Op{Kind: 1, Key: "k", Seq: 1, At: api.Point{Y: lastCell + 1}}),
	}
	wrong = slices.Concat(wrong, moves(2, 0, 1, 2), moves(2, lastEpoch+1, 1, 2), moves(2, lastNum, 1, 2), moves(2, 1, 2, 2), moves(2, 1, 2, 3), moves(2, 1, 1), moves(2, 1, 1, 3), moves(2, 1, 1, 2, 1), moves(2, 1, 1, 1, 2), moves(8, 1, 1, 2))
	for _, e := range wrong {
		is(t, e, false)
		ends(t, written(e), api.ErrForm)
		ends(t, append(written(e), 2, 3), api.ErrForm)
		for i := range written(e) {
			takes(t, written(e)[:i])
		}
	}
}

// P1102, P1103: a number that is not written in as few bytes as can be is ErrForm in each place.
func TestNumbersTooLong(t *testing.T) {
	for _, e := range samples() {
		if e.Kind == 1 {
			continue
		}
		b := written(e)
		for i, c := range b {
			if c < 128 {
				l := slices.Insert(bytes.Clone(b), i+1, 0)
				l[i] += 128
				ends(t, l, api.ErrForm)
			}
		}
	}
	endsChain(t, []byte{129, 0, 3}, api.ErrForm)
	endsChain(t, []byte{1, 131, 0}, api.ErrForm)
	ends(t, []byte{129, 0, 1, 0, 0, 1, 107, 0, 0, 1}, api.ErrForm)
}

// P1101: of no reader, and of one that nobody made.
func TestTakeOfNoReader(t *testing.T) {
	for _, r := range []*wire.Reader{nil, new(wire.Reader), {}} {
		if e := entry.Take(r); !alike(e, entry.Entry{}) || r.Err() != api.ErrArg || r.Left() != 0 {
			t.Errorf("Take: %v, Err %d", e, r.Err())
		}
		if l := entry.TakeChain(r); len(l) != 0 || r.Err() != api.ErrArg || r.Left() != 0 {
			t.Errorf("TakeChain: %v, Err %d", l, r.Err())
		}
	}
}

// P1102: a reader that has an error already keeps it, whatever stands next.
func TestTakeOfReadersWithAnError(t *testing.T) {
	for _, fault := range []api.Errno{api.ErrArg, api.ErrEnd, api.ErrForm, api.ErrSum, api.ErrHop, -1} {
		for _, b := range []string{"", "\x00", "\x02\x03", "\x01\x03", "\x03\x03\x00\x06", "\x09", "\x04\x02\x01\x05\x01\x02", "\x80\x00"} {
			r := wire.Open([]byte(b))
			r.Fail(fault)
			if e := entry.Take(r); !alike(e, entry.Entry{}) || r.Err() != fault || r.Left() != 0 {
				t.Errorf("with error %d, Take of %q: %v, Err %d", fault, b, e, r.Err())
			}
			r = wire.Open([]byte(b))
			r.Fail(fault)
			if l := entry.TakeChain(r); len(l) != 0 || r.Err() != fault || r.Left() != 0 {
				t.Errorf("with error %d, TakeChain of %q: %v, Err %d", fault, b, l, r.Err())
			}
		}
	}
}

// P1102: where Take and TakeChain leave the reader: behind what was taken, of which there may be more, and other things.
func TestOneBehindTheOther(t *testing.T) {
	b := []byte{42}
	for _, e := range samples() {
		put, _ := entry.Put(e)
		chain, _ := entry.PutChain(e.Chain)
		b = slices.Concat(b, put, chain)
	}
	r := wire.Open(append(b, 43, 200))
	if r.Num() != 42 {
		t.Errorf("ahead of the entries")
	}
	for _, e := range samples() {
		got := entry.Take(r)
		l := entry.TakeChain(r)
		if !alike(got, e) || !slices.Equal(l, e.Chain) || r.Err() != api.OK {
			t.Errorf("%v was taken as %v and %v, Err %d", e, got, l, r.Err())
		}
	}
	if n := r.Num(); n != 43 || r.Left() != 1 || r.Err() != api.OK {
		t.Errorf("behind the entries: %d, Left %d, Err %d", n, r.Left(), r.Err())
	}
	if e := entry.Take(r); !alike(e, entry.Entry{}) || r.Err() != api.ErrEnd {
		t.Errorf("at the end: %v, Err %d", e, r.Err())
	}
	if l := entry.TakeChain(r); len(l) != 0 || r.Err() != api.ErrEnd {
		t.Errorf("behind an error: %v, Err %d", l, r.Err())
	}
}
