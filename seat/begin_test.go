package seat_test

import (
	"math"
	"slices"
	"testing"

	"glebe/api"
	"glebe/entry"
	"glebe/point"
	"glebe/seat"
)

func wrongNodes() []int {
	return []int{-1, nodes, nodes + 1, -nodes, 1 << 32, math.MinInt, math.MaxInt}
}

func wrongEpochs() []int {
	return []int{0, -1, lastEpoch + 1, -lastEpoch, lastNum, math.MinInt, math.MaxInt}
}

// wrongPaths: that may not be of k.
func wrongPaths(k int) []api.Path {
	return []api.Path{
		{Depth: 2*k + 1}, {Depth: 2*k + 1, Bits: 1}, {Depth: -1}, {Depth: 1, Bits: 2}, {Depth: 0, Bits: 1}, {Depth: 2, Bits: -1},
		{Depth: 2 * k, Bits: 1 << (2 * k)}, {Depth: math.MaxInt}, {Depth: math.MinInt, Bits: math.MaxInt}, {Depth: 64, Bits: 1}, {Depth: 63, Bits: math.MinInt},
	}
}

func wrongKs() []int { return []int{0, -1, api.MaxK + 1, 1 << 40, math.MinInt, math.MaxInt} }

// P1202: Found of an Epoch, a node, a path and a k of each kind that may be: an own seat without heirs, of nothing.
func TestFound(t *testing.T) {
	for _, epoch := range []int{1, 2, 64, lastEpoch - 1, lastEpoch} {
		for me := range nodes {
			for k, zones := range map[int][]string{1: {"", "0", "1", "01", "11"}, 2: {"", "1", "0110"}, api.MaxK: {"", "10"}} {
				for _, text := range zones {
					p := founded(t, k, me, pathOf(text), epoch)
					want := seat.View{Path: pathOf(text), Epoch: epoch, Holder: me, Me: me, Free: -1}
					if v := p.s.View(); !sameView(v, want) {
						t.Errorf("View %+v, want %+v", v, want)
					}
					if x := p.s.Shelf(); x.Len() != 0 || x.Zone() != pathOf(text) || string(x.Put()) != "\x00\x00\x00\x00\x00\x00\x00\x00\x00" {
						t.Errorf("Shelf of %v, with %q", x.Zone(), x.Put())
					}
					if !p.s.Own() || !p.s.Holds() {
						t.Errorf("Own %v, Holds %v", p.s.Own(), p.s.Holds())
					}
				}
			}
		}
	}
}

// P1202: the deepest path of the greatest k.
func TestFoundOfOneCell(t *testing.T) {
	p := founded(t, api.MaxK, 7, api.Path{Depth: 32, Bits: 1<<32 - 1}, 1)
	if x := p.s.Shelf(); x.Get(cell(65535, 65535), "k").E != api.OK || x.Get(cell(65535, 65534), "k").E != api.ErrArg {
		t.Errorf("not a shelf of the last cell")
	}
}

func foundRefuses(t *testing.T, k, me int, p api.Path, epoch int) {
	t.Helper()
	if s, e := seat.Found(k, me, p, epoch); s != nil || e != api.ErrArg {
		t.Errorf("Found(%d, %d, %v, %d) = %v, %d", k, me, p, epoch, s, e)
	}
}

// P1202: Found of a k, a path, a me and an epoch that may not be, each alone, and all at once.
func TestFoundRefuses(t *testing.T) {
	for _, k := range wrongKs() {
		foundRefuses(t, k, 0, api.Path{}, 1)
	}
	for _, k := range []int{1, 2, 7, api.MaxK} {
		for _, p := range wrongPaths(k) {
			foundRefuses(t, k, 0, p, 1)
		}
	}
	for _, me := range wrongNodes() {
		foundRefuses(t, 2, me, zone(), 1)
	}
	for _, epoch := range wrongEpochs() {
		foundRefuses(t, 2, 0, zone(), epoch)
	}
	foundRefuses(t, 0, -1, api.Path{Depth: -1}, 0)
}

// P1202: Heir of a Sync that may be, with an entry of each Kind that is to be done next, and with none.
func TestHeir(t *testing.T) {
	n := sync(2, entry.Entry{}, 3, 2, 1)
	p, answer, e := heired(t, theK, 2, n)
	want := seat.View{Path: zone(), Epoch: theEpoch, Holder: 0, Me: 2, Index: 7, Free: -1, Chain: []int{3, 2, 1}}
	if v := p.s.View(); e != api.OK || !sameView(v, want) || p.s.Own() || p.s.Holds() {
		t.Errorf("%d, %+v, Own %v", e, v, p.s.Own())
	}
	if !sameNote(answer, seat.Note{Kind: seat.Have, From: 2, To: 0, Path: zone(), Epoch: theEpoch, Index: 7}) {
		t.Errorf("%+v", answer)
	}
	if a := p.s.Shelf().Get(cell(0, 0), "kxx"); a != (point.Ans{Found: true, Value: "v", Ver: 1}) {
		t.Errorf("%+v", a)
	}
	split := entry.Entry{Kind: entry.Split, Node: 3, Epoch: theEpoch + step, By: 0, Chain: []int{3, 2, 1}}
	move := split
	move.Kind = entry.Move
	for _, pend := range []entry.Entry{put(cell(0, 0), 1, 1), put(cell(3, 3), 1, 1), add(5), add(2), add(0), drop(3), drop(2), drop(7), split, move} {
		p, answer, e := heired(t, theK, 2, sync(2, pend, 3, 2, 1))
		if e != api.OK || answer.Index != 8 || !entry.Same(p.s.View().Pend, pend) {
			t.Errorf("with %+v: %d, %+v", pend, e, answer)
		}
	}
}

// P1202: Heir of the least and the greatest Epoch and Index, and of each node.
func TestHeirOfEnds(t *testing.T) {
	for _, epoch := range []int{1, lastEpoch} {
		for _, index := range []int{0, lastEpoch} {
			for me := 1; me < nodes; me++ {
				n := sync(me, add(5), me)
				n.Epoch, n.Index = epoch, index
				if _, answer, e := heired(t, theK, me, n); e != api.OK || answer.Index != index+1 || answer.Epoch != epoch {
					t.Errorf("%+v: %+v, %d", n, answer, e)
				}
			}
		}
	}
}

func heirRefuses(t *testing.T, k, me int, n seat.Note, want api.Errno) {
	t.Helper()
	if p, answer, e := heired(t, k, me, n); p != nil || e != want || !sameNote(answer, seat.Note{}) {
		t.Errorf("Heir(%d, %d, %+v): %+v, %d, want %d", k, me, n, answer, e, want)
	}
}

// P1202: Heir of another Kind of note, whether it may be or not.
func TestHeirOfAnotherKind(t *testing.T) {
	for kind := -1; kind <= 8; kind++ {
		if kind == seat.Sync {
			continue
		}
		n := sync(2, entry.Entry{}, 2)
		n.Kind = kind
		heirRefuses(t, theK, 2, n, api.ErrArg)
		n.Chain, n.State = nil, nil
		heirRefuses(t, theK, 2, n, api.ErrArg)
		n.Pend = add(1)
		heirRefuses(t, theK, 2, n, api.ErrArg)
	}
}

// P1202: Heir of a Sync to another node, of one that may not be, and of a path or a k that may not be.
func TestHeirRefuses(t *testing.T) {
	right := sync(2, add(5), 3, 2)
	for _, me := range append(wrongNodes(), 0, 1, 3, 7) {
		heirRefuses(t, theK, me, right, api.ErrArg)
	}
	for _, k := range wrongKs() {
		heirRefuses(t, k, 2, right, api.ErrArg)
	}
	for k := 1; k <= api.MaxK; k++ {
		for _, p := range wrongPaths(k) {
			n := right
			n.Path = p
			heirRefuses(t, k, 2, n, api.ErrArg)
			n.State = nil
			heirRefuses(t, k, 2, n, api.ErrArg)
		}
	}
	for _, n := range wrongNotes(2) {
		if n.Kind == seat.Sync {
			heirRefuses(t, theK, n.To, n, api.ErrArg)
		}
	}
}

// P1202: Heir of one whose Pend is a Split, at Depth 2 k, ahead of it, and at 2 k of a greater k.
func TestHeirOfASplit(t *testing.T) {
	for _, k := range []int{1, 2, api.MaxK} {
		for depth := max(0, 2*k-2); depth <= 2*k; depth++ {
			z := api.Path{Depth: depth}
			n := sync(2, entry.Entry{Kind: entry.Split, Node: 2, Epoch: 9, By: 0, Chain: []int{2}}, 2)
			n.Path, n.State = z, shelfBytes(k, z, 1)
			want := api.OK
			if depth == 2*k {
				want = api.ErrArg
			}
			if _, _, e := heired(t, k, 2, n); e != want {
				t.Errorf("K %d, depth %d: %d, want %d", k, depth, e, want)
			}
			if k < api.MaxK {
				if _, _, e := heired(t, k+1, 2, n); e != api.OK {
					t.Errorf("K %d, depth %d: %d", k+1, depth, e)
				}
			}
			n.State = nil
			if want == api.OK {
				want = api.ErrForm
			}
			heirRefuses(t, k, 2, n, want)
			for _, pend := range []entry.Entry{{}, add(5), {Kind: entry.Move, Node: 2, Epoch: 9, By: 0, Chain: []int{2}}} {
				n.Pend, n.State = pend, shelfBytes(k, z, 1)
				if _, _, e := heired(t, k, 2, n); e != api.OK {
					t.Errorf("K %d, depth %d, %+v: %d", k, depth, pend, e)
				}
			}
		}
	}
}

// wrongStates: bytes that are no shelf's of the zone, or have something behind it.
func wrongStates() [][]byte {
	right := shelfBytes(theK, zone(), 2)
	l := [][]byte{nil, {}, {0}, {255}, slices.Concat(right, []byte{0}), slices.Concat(right, right), shelfBytes(theK, pathOf("1"), 2), shelfBytes(theK, api.Path{}, 70)[1:]}
	for i := range right {
		l = append(l, right[:i])
	}
	return l
}

// P1202: Heir of a State that is none, or has something behind it, is ErrForm; ErrArg, where that applies, too.
func TestHeirOfAState(t *testing.T) {
	for _, state := range wrongStates() {
		n := sync(2, entry.Entry{}, 2)
		n.State = state
		heirRefuses(t, theK, 2, n, api.ErrForm)
		heirRefuses(t, theK, 1, n, api.ErrArg)
		n.Chain = nil
		heirRefuses(t, theK, 2, n, api.ErrArg)
	}
	n := sync(2, entry.Entry{}, 2)
	n.State = shelfBytes(theK, zone(), 0)
	if p, _, e := heired(t, theK, 2, n); e != api.OK || p.s.Shelf().Len() != 0 {
		t.Errorf("of an empty shelf: %d", e)
	}
}

// P1201: of a nil Seat, and of one that nobody made.
func TestNoSeat(t *testing.T) {
	right := holder(t).s
	for _, s := range []*seat.Seat{nil, new(seat.Seat), {}} {
		if v := s.View(); !sameView(v, seat.View{}) {
			t.Errorf("View %+v", v)
		}
		if s.Shelf() != nil || s.Own() || s.Holds() {
			t.Errorf("Shelf %v, Own %v, Holds %v", s.Shelf(), s.Own(), s.Holds())
		}
		for _, e := range []entry.Entry{{}, add(1), drop(0), put(cell(0, 0), 0, 1)} {
			if fault := s.Propose(e); fault != api.ErrArg {
				t.Errorf("Propose: %d", fault)
			}
		}
		for _, node := range append(wrongNodes(), 0) {
			if fault := s.Release(node); fault != api.ErrArg {
				t.Errorf("Release: %d", fault)
			}
		}
		for _, n := range []seat.Note{{}, sync(0, entry.Entry{}, 0), {Kind: seat.Have, From: 1, Epoch: 1}, sync(1, add(2), 1)} {
			if l, answer, e := s.Hear(n); len(l) != 0 || !sameNote(answer, seat.Note{}) || e != api.ErrArg {
				t.Errorf("Hear: %v, %+v, %d", l, answer, e)
			}
		}
		for _, down := range []seat.Down{{}, downOf(0), downOf(0, 1, 2, 3, 4, 5, 6, 7)} {
			if l, done := s.Settle(down); len(l) != 0 || len(done) != 0 {
				t.Errorf("Settle: %v, %v", l, done)
			}
			if l := s.Out(down); len(l) != 0 {
				t.Errorf("Out: %v", l)
			}
		}
		if l := s.Turn(); len(l) != 0 {
			t.Errorf("Turn: %v", l)
		}
		for _, pair := range [][2]*seat.Seat{{s, s}, {s, right}, {right, s}, {s, nil}, {nil, s}} {
			if m, e := seat.Merge(pair[0], pair[1]); m != nil || e != api.ErrArg {
				t.Errorf("Merge: %v, %d", m, e)
			}
		}
	}
}
