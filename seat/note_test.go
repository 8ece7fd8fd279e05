package seat_test

import (
	"bytes"
	"math"
	"slices"
	"testing"

	"glebe/api"
	"glebe/entry"
	"glebe/point"
	"glebe/seat"
)

func noteIs(t *testing.T, n seat.Note, want bool) {
	t.Helper()
	if seat.RightNote(n) != want || mayNote(n) != want {
		t.Errorf("RightNote(%+v) is %v, to the model %v, want %v", n, seat.RightNote(n), mayNote(n), want)
	}
}

// rightEntries: of each Kind.
func rightEntries() []entry.Entry {
	return []entry.Entry{
		put(cell(0, 0), 0, 1), {Kind: entry.Call, Op: point.Op{Kind: point.Get, At: cell(65535, 0), Key: "k", Client: 7, Seq: lastSeq}}, add(0), add(7), drop(0), drop(7),
		{Kind: entry.Split, Node: 1, Epoch: 1, By: 0, Chain: []int{1}}, {Kind: entry.Move, Node: 1, Epoch: lastEpoch, By: 7, Chain: []int{2, 1, 0}},
	}
}

func wrongEntries() []entry.Entry {
	return []entry.Entry{
		{Kind: 6}, {Kind: -1}, {Kind: math.MaxInt}, {Node: 1}, {Epoch: 1}, {By: 1}, {Chain: []int{1}}, {Op: point.Op{Key: "k"}},
		{Kind: entry.Call}, {Kind: entry.Call, Op: put(cell(0, 0), 0, 1).Op, Node: 1}, {Kind: entry.Add, Node: 8}, {Kind: entry.Add, Node: -1}, {Kind: entry.Drop, Node: 1, By: 1}, {Kind: entry.Drop, Chain: []int{1}},
		{Kind: entry.Split, Node: 1, Epoch: 0, By: 0, Chain: []int{1}}, {Kind: entry.Split, Node: 1, Epoch: 1, By: 1, Chain: []int{1}}, {Kind: entry.Move, Node: 1, Epoch: 1, By: 0, Chain: []int{2}},
		{Kind: entry.Move, Node: 1, Epoch: lastEpoch + 1, By: 0, Chain: []int{1}}, {Kind: entry.Move, Node: 1, Epoch: 1, By: 0, Chain: []int{1, 1}}, {Kind: entry.Move, Node: 1, Epoch: 1, By: 0, Chain: []int{1, 0}},
	}
}

// bare: a note of that Kind that may be, from 3 to the node, with no more than it must have.
func bare(kind, to int) seat.Note {
	n := seat.Note{Kind: kind, From: 3, To: to, Path: zone(), Epoch: 5, Index: 6}
	switch kind {
	case seat.Sync:
		n.Holder, n.Chain = 3, []int{to}
	case seat.Append:
		n.Pend = add(1)
	}
	return n
}

// wrongNotes: one for each thing that may not be, of each Kind, but for From and Path.
func wrongNotes(to int) []seat.Note {
	var l []seat.Note
	wrong := func(kind int, change func(n *seat.Note)) {
		n := bare(kind, to)
		change(&n)
		l = append(l, n)
	}
	for kind := seat.Sync; kind <= seat.Grant; kind++ {
		for _, epoch := range wrongEpochs() {
			wrong(kind, func(n *seat.Note) { n.Epoch = epoch })
		}
		for _, index := range []int{-1, lastEpoch + 1, math.MinInt, math.MaxInt} {
			wrong(kind, func(n *seat.Note) { n.Index = index })
		}
		for _, e := range wrongEntries() {
			wrong(kind, func(n *seat.Note) { n.Pend = e })
		}
		for _, holder := range []int{-1, 1, to, 7, 8, math.MaxInt, math.MinInt} {
			wrong(kind, func(n *seat.Note) { n.Holder = holder })
		}
		if kind == seat.Sync {
			continue
		}
		wrong(kind, func(n *seat.Note) { n.Holder = n.From })
		wrong(kind, func(n *seat.Note) { n.Chain = []int{to} })
		wrong(kind, func(n *seat.Note) { n.Chain = []int{-5} })
		wrong(kind, func(n *seat.Note) { n.State = []byte{0} })
		wrong(kind, func(n *seat.Note) { n.State = shelfBytes(theK, zone(), 1) })
		if kind == seat.Append {
			wrong(kind, func(n *seat.Note) { n.Pend = entry.Entry{} })
			continue
		}
		for _, e := range rightEntries() {
			wrong(kind, func(n *seat.Note) { n.Pend = e })
		}
	}
	for _, chain := range [][]int{nil, {}, {1}, {to, 3}, {3, to}, {to, to}, {1, to, 1}, {to, 8}, {-1, to}, {to, math.MinInt}, {0, 1, 2, 3, 4, 5, 6, 7}, {0, 1, 2, 4, 5, 6, 7, 0}, slices.Repeat([]int{to}, 500)} {
		wrong(seat.Sync, func(n *seat.Note) { n.Chain = chain })
	}
	return l
}

// P1203: of each Kind one that may be, with all fields that it may have.
func TestRightNote(t *testing.T) {
	for kind := seat.Sync; kind <= seat.Grant; kind++ {
		n := bare(kind, 2)
		noteIs(t, n, true)
		for _, epoch := range []int{1, 2, lastEpoch - 1, lastEpoch} {
			for _, index := range []int{0, 1, lastEpoch - 1, lastEpoch} {
				n := n
				n.Epoch, n.Index = epoch, index
				noteIs(t, n, true)
			}
		}
		for _, p := range []api.Path{{}, {Depth: 1}, {Depth: 1, Bits: 1}, {Depth: 32}, {Depth: 32, Bits: 1<<32 - 1}} {
			n := n
			n.Path = p
			noteIs(t, n, true)
		}
		if kind == seat.Sync {
			n.Chain = []int{7, 2, 0}
		} else {
			n.Chain, n.State = []int{}, []byte{}
		}
		if kind != seat.Append {
			n.Pend = entry.Entry{Chain: []int{}}
		}
		noteIs(t, n, true)
	}
}

// P1203: Sync with each entry, chain and State; Append with each entry.
func TestRightSyncAndAppend(t *testing.T) {
	for _, e := range rightEntries() {
		n := bare(seat.Append, 2)
		n.Pend = e
		noteIs(t, n, true)
		n = bare(seat.Sync, 2)
		n.Pend = e
		noteIs(t, n, true)
	}
	for _, chain := range [][]int{{2}, {2, 1}, {1, 2}, {7, 6, 5, 4, 2, 1, 0}} {
		for _, state := range [][]byte{nil, {}, {255}, shelfBytes(theK, zone(), 2), bytes.Repeat([]byte{7}, 1<<18)} {
			n := bare(seat.Sync, 2)
			n.Chain, n.State = chain, state
			noteIs(t, n, true)
		}
	}
	n := bare(seat.Sync, 2)
	n.From, n.Holder = 0, 0
	noteIs(t, n, true)
}

// P1203: one for each thing that may not be.
func TestWrongNotes(t *testing.T) {
	for _, to := range []int{2, 7} {
		for _, n := range wrongNotes(to) {
			noteIs(t, n, false)
		}
	}
	noteIs(t, seat.Note{}, false)
}

// P1203: a Kind that is none, with what each of the Kinds has.
func TestWrongKinds(t *testing.T) {
	for _, kind := range []int{0, -1, 7, 8, 256 + seat.Have, 1<<32 + seat.Have, math.MinInt, math.MaxInt} {
		for like := seat.Sync; like <= seat.Grant; like++ {
			n := bare(like, 2)
			n.Kind = kind
			noteIs(t, n, false)
		}
	}
}

// P1203: From and To: every pair of nodes, the same, and no nodes.
func TestFromAndTo(t *testing.T) {
	for kind := seat.Sync; kind <= seat.Grant; kind++ {
		for _, from := range append(wrongNodes(), 0, 1, 2, 3, 4, 5, 6, 7) {
			for _, to := range append(wrongNodes(), 0, 1, 2, 3, 4, 5, 6, 7) {
				n := bare(kind, to)
				n.From = from
				if kind == seat.Sync {
					n.Holder = from
				}
				noteIs(t, n, nodeIs(from) && nodeIs(to) && from != to)
			}
		}
	}
}

// P1203: paths that may not be at all.
func TestPathsOfNotes(t *testing.T) {
	for kind := seat.Sync; kind <= seat.Grant; kind++ {
		for _, p := range wrongPaths(api.MaxK) {
			n := bare(kind, 2)
			n.Path = p
			noteIs(t, n, false)
		}
	}
}

// P1203: Chains without To, with From, with a node twice, each alone at each place.
func TestChainsOfSync(t *testing.T) {
	right := []int{0, 1, 2, 4}
	for i := range right {
		n := bare(seat.Sync, right[i])
		n.Chain = slices.Clone(right)
		noteIs(t, n, true)
		n.Chain = slices.Delete(slices.Clone(right), i, i+1)
		noteIs(t, n, false)
		for _, node := range append([]int{3, 0, 1, 2, 4}, wrongNodes()...) {
			n.Chain = slices.Insert(slices.Clone(right), i, node)
			noteIs(t, n, false)
		}
	}
}

// P1203: a Sync's Holder is From, whoever that is.
func TestHolderIsFrom(t *testing.T) {
	for from := range nodes {
		for holder := -1; holder <= nodes; holder++ {
			to := (from + 1) % nodes
			n := bare(seat.Sync, to)
			n.From, n.Holder = from, holder
			n.Chain = []int{to}
			noteIs(t, n, holder == from)
		}
	}
}
