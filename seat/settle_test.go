package seat_test

import (
	"slices"
	"testing"

	"glebe/api"
	"glebe/entry"
	"glebe/point"
	"glebe/seat"
)

// settles: so many seats stand in its place, and this was done.
func (p *pair) settles(down seat.Down, seats int, want ...seat.Done) []*pair {
	p.t.Helper()
	l, done := p.settle(down)
	if len(l) != seats || !slices.EqualFunc(done, want, sameDone) {
		p.t.Errorf("%+v: Settle(%v): %d seats, %+v, want %d, %+v", p.m.view(), down, len(l), done, seats, want)
	}
	return l
}

// allDowns: each set of these nodes, with and without all others that are none of the test's.
func allDowns(l ...int) []seat.Down {
	downs := []seat.Down{{}, downOf(6, 7)}
	for _, node := range l {
		for _, d := range slices.Clone(downs) {
			d[node] = true
			downs = append(downs, d)
		}
	}
	return downs
}

// P1206: Found, Settle: Ready; an Add that is proposed then is done, and the chain has it.
func TestSettleOfTheFirst(t *testing.T) {
	p := founded(t, theK, 0, zone(), theEpoch)
	p.settles(seat.Down{}, 1)
	if v := p.s.View(); !v.Ready || v.Index != 0 {
		t.Errorf("%+v", v)
	}
	p.settles(seat.Down{}, 1)
	p.proposes(add(4), api.OK)
	p.settles(seat.Down{}, 1, seat.Done{Entry: add(4)})
	v := p.s.View()
	want := seat.View{Path: zone(), Epoch: theEpoch, Index: 1, Free: -1, Chain: []int{4}, Ready: true, Came: [nodes]int{4: 1}}
	if !sameView(v, want) {
		t.Errorf("%+v, want %+v", v, want)
	}
	p.settles(seat.Down{}, 1)
}

// P1206: each Kind of entry that is no Split or Move is done when all heirs have it, not ahead of that.
func TestSettleDoes(t *testing.T) {
	found := point.Ans{Found: true, Value: "v", Ver: 1}
	for _, x := range []struct {
		e     entry.Entry
		ans   point.Ans
		chain []int
	}{
		{put(cell(0, 0), 1, 4), point.Ans{Found: true, Value: "v", Ver: 2}, []int{1, 2}},
		{callOf(point.Op{Kind: point.Get, At: cell(0, 0), Key: "k", Client: 2, Seq: 1}), found, []int{1, 2}},
		{callOf(point.Op{Kind: point.Del, At: cell(0, 0), Key: "k", Client: 2, Seq: 1}), found, []int{1, 2}},
		{callOf(point.Op{Kind: point.Get, At: cell(0, 1), Key: "k", Client: 2, Seq: 1}), point.Ans{}, []int{1, 2}},
		{add(5), point.Ans{}, []int{1, 2, 5}},
	} {
		p := holder(t)
		p.does(callOf(point.Op{Kind: point.Put, At: cell(0, 0), Key: "k", Value: "v", Seq: 1}))
		p.does(add(1))
		p.have(1)
		p.does(add(2))
		p.have(2)
		p.proposes(x.e, api.OK)
		p.settles(seat.Down{}, 1)
		p.have(2)
		p.settles(seat.Down{}, 1)
		p.have(1)
		p.settles(seat.Down{}, 1, seat.Done{Entry: x.e, Ans: x.ans})
		if v := p.s.View(); v.Index != 4 || v.Pend.Kind != 0 || v.Acked != (seat.Down{}) || !slices.Equal(v.Chain, x.chain) || !v.Ready {
			t.Errorf("behind %+v: %+v", x.e, v)
		}
		p.settles(seat.Down{}, 1)
	}
}

// P1206: what the holder has done is in its shelf then, not before.
func TestSettleApplies(t *testing.T) {
	p := holder(t, 1)
	p.proposes(put(cell(1, 1), 1, 4), api.OK)
	p.settle(seat.Down{})
	if n := p.s.Shelf().Len(); n != 0 {
		t.Errorf("%d records", n)
	}
	p.have(1)
	if n := p.s.Shelf().Len(); n != 0 {
		t.Errorf("%d records", n)
	}
	p.settle(seat.Down{})
	if a := p.s.Shelf().Get(cell(1, 1), "k"); a != (point.Ans{Found: true, Value: "v", Ver: 1}) {
		t.Errorf("%+v", a)
	}
	p.proposes(put(cell(1, 1), 1, 4), api.ErrStale)
}

// P1206: Drop: nobody need wait for the node that is dropped; it leaves the chain, is not Gone, and is nobody's Free.
func TestSettleOfADrop(t *testing.T) {
	for _, gone := range []bool{false, true} {
		for node := 1; node <= 3; node++ {
			p := holder(t, 1, 2, 3)
			p.releases(3, api.OK)
			if gone {
				p.hear(p.from(3, seat.Freed, 3))
			}
			p.proposes(drop(node), api.OK)
			p.settles(seat.Down{}, 1)
			for other := 1; other <= 3; other++ {
				if other != node && !(gone && other == 3) {
					p.have(other)
				}
			}
			p.settles(seat.Down{}, 1, seat.Done{Entry: drop(node)})
			v := p.s.View()
			if slices.Contains(v.Chain, node) || v.Gone[node] || (v.Free == 3) != (node != 3) || v.Gone[3] != (gone && node != 3) {
				t.Errorf("behind a Drop of %d: %+v", node, v)
			}
		}
	}
}

// P1206: with Pend, each heir is Acked, or down, or Gone; with any of them out else nothing is done.
func TestSettleWaitsForAll(t *testing.T) {
	for _, down := range allDowns(1, 2, 3) {
		for _, acked := range allDowns(1, 2, 3) {
			for _, gone := range []bool{false, true} {
				p := holder(t, 1, 2, 3)
				p.proposes(put(cell(0, 0), 1, 1), api.OK)
				if gone {
					p.releases(3, api.OK)
					p.hear(p.from(3, seat.Freed, 3))
				}
				all := true
				for node := 1; node <= 3; node++ {
					if acked[node] {
						p.have(node)
					}
					all = all && (acked[node] || down[node] || gone && node == 3)
				}
				_, done := p.settle(down)
				if (len(done) == 1) != all {
					t.Errorf("down %v, Acked %v, 3 Gone %v: done %+v", down, acked, gone, done)
				}
			}
		}
	}
}

// P1206: what is to be done is done with nobody Acked, where all are down; a node that is Acked under one Index is not under the next.
func TestSettleOfTheNext(t *testing.T) {
	p := holder(t, 1, 2)
	for i := 1; i <= 6; i++ {
		p.proposes(put(cell(0, 0), 1, i), api.OK)
		p.have(1)
		p.answers(p.from(2, seat.Have, p.m.index), seat.Note{})
		p.settles(seat.Down{}, 1)
		p.have(2)
		_, done := p.settle(seat.Down{})
		if len(done) != 1 || p.s.View().Index != 2+i {
			t.Errorf("%d: %+v", i, p.s.View())
		}
	}
	p.proposes(put(cell(0, 0), 1, 7), api.OK)
	p.settles(downOf(1, 2), 1, seat.Done{Entry: put(cell(0, 0), 1, 7), Ans: point.Ans{Found: true, Value: "v", Ver: 2}})
}

// P1206: taking over: just where the holder, and all that stand ahead, are down.
func TestTakeOver(t *testing.T) {
	chain := []int{4, 2, 5, 1}
	for place, me := range chain {
		for _, pend := range entries() {
			for _, down := range allDowns(0, 4, 2, 5, 1) {
				p := heir(t, me, pend, chain...)
				l, _ := p.settle(down)
				takes := down[0]
				for _, node := range chain[:place] {
					takes = takes && down[node]
				}
				v := l[0].s.View()
				if !takes && (len(l) != 1 || !sameView(v, seat.View{Path: zone(), Epoch: theEpoch, Me: me, Index: 7, Free: -1, Chain: chain, Pend: pend})) {
					t.Errorf("%d with %v down: %+v", me, down, v)
				}
				if takes && len(l) == 1 && l[0] == p && (v.Epoch != theEpoch+1+place || v.Holder != me || v.Free != -1 || v.Since != 0 || v.Synced != (seat.Down{}) || v.Gone != (seat.Down{})) {
					t.Errorf("%d with %v down: %+v", me, down, v)
				}
			}
		}
	}
}

// P1206: who takes over, and waits for those behind it: what it is then.
func TestTakenOver(t *testing.T) {
	for _, pend := range entries() {
		p := heir(t, 2, pend, 1, 2, 3, 4)
		p.settles(downOf(0, 1), 1)
		want := seat.View{Path: zone(), Epoch: theEpoch + 2, Holder: 2, Me: 2, Index: 7, Free: -1, Chain: []int{3, 4}, Pend: pend, Inherit: pend.Kind != 0}
		if v := p.s.View(); !sameView(v, want) || !p.s.Own() {
			t.Errorf("%+v, want %+v", v, want)
		}
		if n := p.s.Shelf().Len(); n != 2 {
			t.Errorf("%d records", n)
		}
	}
}

// P1206: taking over again and again, each ahead of the next: the Epoch goes up by the place in the chain, from whichever of them one takes over.
func TestTakeOverInTurn(t *testing.T) {
	late := heir(t, 4, entry.Entry{}, 1, 2, 3, 4)
	late.settles(downOf(0, 1, 2, 3), 1)
	for last := 1; last <= 3; last++ {
		p := heir(t, 4, entry.Entry{}, 1, 2, 3, 4)
		for holder := 1; holder <= last; holder++ {
			n := sync(4, entry.Entry{}, []int{2, 3, 4}[holder-1:]...)
			n.From, n.Holder, n.Epoch = holder, holder, theEpoch+holder
			p.answers(n, seat.Note{Kind: seat.Have, From: 4, To: holder, Path: zone(), Epoch: theEpoch + holder, Index: 7})
		}
		p.settles(downOf(1, 2, 3), 1)
		if a, b := p.s.View(), late.s.View(); a.Epoch != theEpoch+4 || !sameView(a, b) || !a.Ready {
			t.Errorf("%+v, %+v", a, b)
		}
	}
}

// P1206: who is not in the chain never takes over, whoever is down.
func TestTakeOverOfWhoIsNoHeir(t *testing.T) {
	p := heir(t, 2, drop(2), 1, 2)
	p.hear(p.appendOf(theEpoch, 9, add(5)))
	for _, down := range allDowns(0, 1, 2, 5) {
		p.settles(down, 1)
		if p.s.Own() {
			t.Fatalf("%+v", p.s.View())
		}
	}
}

// P1206: an heir with nobody behind it is Ready at once, and does what it found, too.
func TestTakeOverAlone(t *testing.T) {
	p := heir(t, 2, entry.Entry{}, 2)
	p.settles(downOf(0), 1)
	if v := p.s.View(); !v.Ready || v.Inherit || v.Epoch != theEpoch+1 {
		t.Errorf("%+v", v)
	}
	e := put(cell(1, 1), 5, 1)
	p = heir(t, 2, e, 1, 2)
	p.settles(downOf(0, 1), 1, seat.Done{Entry: e})
	if v := p.s.View(); !v.Ready || v.Inherit || v.Pend.Kind != 0 || v.Index != 8 || v.Epoch != theEpoch+2 {
		t.Errorf("%+v", v)
	}
	p = heir(t, 2, add(3), 2)
	p.settles(downOf(0), 1, seat.Done{Entry: add(3)})
	if v := p.s.View(); !slices.Equal(v.Chain, []int{3}) || v.Came[3] != 8 || !v.Ready {
		t.Errorf("%+v", v)
	}
}

// P1206: becoming Ready: all of the chain are Synced, or down; with any that is neither it is not.
func TestReady(t *testing.T) {
	for _, down := range allDowns(1, 2, 3) {
		for _, synced := range allDowns(1, 2, 3) {
			p := taker(t, 4, entry.Entry{}, 4, 1, 2, 3)
			all := true
			for node := 1; node <= 3; node++ {
				if synced[node] {
					p.have(node)
				}
				all = all && (synced[node] || down[node])
			}
			p.settles(down, 1)
			if v := p.s.View(); v.Ready != all {
				t.Errorf("down %v, Synced %v: %+v", down, synced, v)
			}
		}
	}
}

// P1206: who is Ready stays so, when one comes that is not Synced.
func TestReadyStays(t *testing.T) {
	p := holder(t, 1)
	p.does(add(2))
	p.settles(seat.Down{}, 1)
	if v := p.s.View(); !v.Ready || v.Synced[2] {
		t.Errorf("%+v", v)
	}
	p.proposes(put(cell(0, 0), 1, 1), api.OK)
	p.have(1)
	p.settles(seat.Down{}, 1)
	p.have(2)
	p.settles(seat.Down{}, 1, seat.Done{Entry: put(cell(0, 0), 1, 1)})
}

// P1206: an inherited Drop waits till its node is down, or Gone: it is no reason to be out.
func TestSettleOfAnInheritedDrop(t *testing.T) {
	start := func() *pair {
		p := taker(t, 3, drop(2), 3, 1, 2)
		p.settles(seat.Down{}, 1)
		p.have(1)
		p.settles(seat.Down{}, 1)
		if v := p.s.View(); v.Ready || !v.Inherit || !v.Synced[1] || !v.Acked[1] {
			t.Errorf("%+v", v)
		}
		return p
	}
	p := start()
	p.settles(downOf(2), 1, seat.Done{Entry: drop(2)})
	p = start()
	p.answers(p.from(2, seat.Freed, 0), seat.Note{})
	p.settles(seat.Down{}, 1, seat.Done{Entry: drop(2)})
	if v := p.s.View(); !slices.Equal(v.Chain, []int{1}) || v.Gone[2] || v.Inherit || !v.Ready {
		t.Errorf("%+v", v)
	}
	p = taker(t, 3, drop(1), 1, 3, 2)
	p.have(2)
	p.settles(seat.Down{}, 1, seat.Done{Entry: drop(1)})
}

// P1206: a Split and a Move are told as done, and the new seats stand in its place; they are not settled by that.
func TestSettleOfATurn(t *testing.T) {
	for node := 1; node <= 2; node++ {
		for _, kind := range []int{entry.Split, entry.Move} {
			p := holder(t, 1, 2)
			e := p.splitOf(node)
			e.Kind = kind
			p.proposes(e, api.OK)
			p.settles(seat.Down{}, 1)
			p.have(1)
			p.settles(seat.Down{}, 1)
			p.have(2)
			l := p.settles(seat.Down{}, 6-kind, seat.Done{Entry: e})
			for _, q := range l {
				if v := q.s.View(); v.Ready || v.Epoch != theEpoch+step || v.Index != 3 {
					t.Errorf("%+v", v)
				}
			}
		}
	}
}

// P1206: heirs that find a Split or Move as Pend do it when they are Ready.
func TestSettleOfAnInheritedTurn(t *testing.T) {
	for node := 1; node <= 3; node++ {
		for _, kind := range []int{entry.Split, entry.Move} {
			e := entry.Entry{Kind: kind, Node: node, Epoch: theEpoch + step, By: 0, Chain: []int{1, 2, 3}}
			p := taker(t, 2, e, 1, 2, 3)
			if p.s.Holds() || !p.s.Own() {
				t.Errorf("%+v holds", p.m.view())
			}
			p.settles(seat.Down{}, 1)
			p.have(3)
			l := p.settles(downOf(0, 1), 6-kind, seat.Done{Entry: e})
			last := l[len(l)-1].s.View()
			if last.Holder != node || last.Nudge != (node != 2) || last.Index != 8 || last.Chain[0] != 0 {
				t.Errorf("%+v", last)
			}
			if kind == entry.Split {
				first := l[0].s.View()
				if first.Holder != 0 || first.Nudge || first.Me != 2 || !slices.Equal(first.Chain, []int{1, 2, 3}) {
					t.Errorf("%+v", first)
				}
			}
		}
	}
}

// P1206: Turn with a Split: both halves, of the holder, the node, and others.
func TestTurnOfASplit(t *testing.T) {
	e := entry.Entry{Kind: entry.Split, Node: 3, Epoch: theEpoch + step, By: 0, Chain: []int{1, 3, 2}}
	for _, me := range []int{1, 2, 3} {
		p := heir(t, me, e, 1, 3, 2)
		l := p.turn()
		low := seat.View{Path: pathOf("00"), Epoch: theEpoch + step, Holder: 0, Me: me, Index: 8, Free: -1, Chain: []int{1, 3, 2}}
		high := seat.View{Path: pathOf("01"), Epoch: theEpoch + step, Holder: 3, Me: me, Index: 8, Free: -1, Chain: []int{0, 1, 2}}
		if me != 3 {
			high.Nudge, high.Origin = true, zone()
		}
		if len(l) != 2 || !sameView(l[0].s.View(), low) || !sameView(l[1].s.View(), high) {
			t.Fatalf("%+v, %+v", l[0].s.View(), l[1].s.View())
		}
		if a, b := l[0].s.Shelf(), l[1].s.Shelf(); a.Zone() != low.Path || b.Zone() != high.Path || a.Len() != 2 || b.Len() != 0 {
			t.Errorf("%v %d, %v %d", a.Zone(), a.Len(), b.Zone(), b.Len())
		}
		if l[0].s.Own() || l[1].s.Own() != (me == 3) {
			t.Errorf("%d: Own %v, %v", me, l[0].s.Own(), l[1].s.Own())
		}
	}
	p := holder(t, 1, 2)
	p.does(put(cell(1, 3), 1, 1))
	p.proposes(p.splitOf(1), api.OK)
	l := p.turn()
	if len(l) != 2 || !l[0].s.Own() || l[1].s.Own() || !l[1].s.View().Nudge || l[0].s.Shelf().Len() != 0 || l[1].s.Shelf().Len() != 1 {
		t.Errorf("%+v, %+v", l[0].s.View(), l[1].s.View())
	}
}

// P1206: Turn with a Move: the same zone, of another holder.
func TestTurnOfAMove(t *testing.T) {
	e := entry.Entry{Kind: entry.Move, Node: 3, Epoch: theEpoch + step, By: 0, Chain: []int{1, 3, 2}}
	for _, me := range []int{1, 2, 3} {
		p := heir(t, me, e, 1, 3, 2)
		l := p.turn()
		want := seat.View{Path: zone(), Epoch: theEpoch + step, Holder: 3, Me: me, Index: 8, Free: -1, Chain: []int{0, 1, 2}}
		if me != 3 {
			want.Nudge, want.Origin = true, zone()
		}
		if len(l) != 1 || !sameView(l[0].s.View(), want) || !l[0].s.Shelf().Same(p.s.Shelf()) {
			t.Fatalf("%+v, want %+v", l[0].s.View(), want)
		}
	}
}

// P1206: Turn with another Pend, and with none: the seat alone, as it was.
func TestTurnOfOthers(t *testing.T) {
	for _, e := range entries() {
		if e.Kind == entry.Split || e.Kind == entry.Move {
			continue
		}
		p, q := heir(t, 2, e, 1, 2), holder(t, 1, 2)
		if e.Kind != 0 {
			q.proposes(e, api.OK)
		}
		for _, x := range []*pair{p, q, taker(t, 2, e, 1, 2, 5)} {
			if l := x.turn(); len(l) != 1 || l[0] != x {
				t.Errorf("with %+v: not it alone", e)
			}
		}
	}
}

// P1206: Splits and Moves of each depth: the halves are the zone's, and have its records.
func TestTurnOfEachDepth(t *testing.T) {
	for _, k := range []int{1, 2, 3, api.MaxK} {
		for depth := range 2 * k {
			z := api.Path{Depth: depth, Bits: 1<<depth - 1}
			p := holderAt(t, k, z, 0, 1)
			at, _ := corner(k, z)
			p.does(put(at, 1, 1))
			p.does(put(cell(1<<k-1, 1<<k-1), 1, 2))
			p.proposes(p.splitOf(1), api.OK)
			l := p.turn()
			if a, b := l[0].s.Shelf(), l[1].s.Shelf(); len(l) != 2 || a.Len() != 1 || b.Len() != 1 {
				t.Errorf("K %d, depth %d: %d, %d", k, depth, a.Len(), b.Len())
			}
		}
	}
}
