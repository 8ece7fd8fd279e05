package seat_test

import (
	"math"
	"slices"
	"testing"

	"glebe/api"
	"glebe/entry"
	"glebe/point"
	"glebe/seat"
)

// proposes: the seat answers that, and has the entry as Pend just if it is OK.
func (p *pair) proposes(e entry.Entry, want api.Errno) {
	p.t.Helper()
	was := p.s.View().Pend
	if got := p.propose(e); got != want {
		p.t.Errorf("%+v: Propose(%+v): %d, want %d", p.m.view(), e, got, want)
	}
	if want == api.OK {
		was = e
	}
	if now := p.s.View().Pend; !entry.Same(now, was) {
		p.t.Errorf("behind Propose(%+v): Pend %+v", e, now)
	}
}

func (p *pair) releases(node int, want api.Errno) {
	p.t.Helper()
	if got := p.release(node); got != want {
		p.t.Errorf("%+v: Release(%d): %d, want %d", p.m.view(), node, got, want)
	}
}

func callOf(o point.Op) entry.Entry { return entry.Entry{Kind: entry.Call, Op: o} }

// ofEachKind: entries that a Ready holder of the zone with the heirs 1 and 2 may propose.
func ofEachKind() []entry.Entry {
	p := &plain{me: 0, epoch: theEpoch, chain: []int{1, 2}}
	q := &pair{m: p}
	return []entry.Entry{
		put(cell(0, 0), 1, 1), callOf(point.Op{Kind: point.Get, At: cell(1, 3), Key: "k", Client: 7, Seq: lastSeq}), callOf(point.Op{Kind: point.Del, At: cell(0, 1), Key: "k", Seq: 1}),
		add(3), add(7), drop(1), drop(2), q.splitOf(1), q.splitOf(2), q.moveOf(1), q.moveOf(2),
	}
}

// P1204: Propose of each Kind, by an own seat that is Ready.
func TestPropose(t *testing.T) {
	for _, e := range ofEachKind() {
		p := holder(t, 1, 2)
		p.proposes(e, api.OK)
		if v := p.s.View(); v.Acked != (seat.Down{}) || v.Index != 2 || v.Inherit {
			t.Errorf("behind Propose(%+v): %+v", e, v)
		}
		for _, other := range append(ofEachKind(), add(0), add(1), drop(5), put(cell(3, 0), 1, 1)) {
			p.proposes(other, api.ErrBusy)
		}
	}
}

// P1204: ErrArg of who is not own, Ready or not, and of an entry that may not be, whoever proposes.
func TestProposeOfAnHeir(t *testing.T) {
	for _, e := range append(ofEachKind(), wrongEntries()...) {
		heir(t, 1, entry.Entry{}, 1, 2).proposes(e, api.ErrArg)
		heir(t, 1, add(4), 1, 2).proposes(e, api.ErrArg)
	}
	for _, e := range wrongEntries() {
		holder(t, 1, 2).proposes(e, api.ErrArg)
		p := holder(t, 1, 2)
		p.proposes(add(3), api.OK)
		p.proposes(e, api.ErrArg)
		founded(t, theK, 0, zone(), theEpoch).proposes(e, api.ErrArg)
		taker(t, 1, add(4), 1, 2).proposes(e, api.ErrArg)
	}
}

// P1204: ErrBusy, unless it is Ready, whatever else is wrong with the entry.
func TestProposeBeforeReady(t *testing.T) {
	for _, e := range append(ofEachKind(), add(0), drop(5), put(cell(3, 0), 1, 1)) {
		founded(t, theK, 0, zone(), theEpoch).proposes(e, api.ErrBusy)
		p := taker(t, 1, entry.Entry{}, 1, 2)
		p.proposes(e, api.ErrBusy)
		taker(t, 1, add(4), 1, 2).proposes(e, api.ErrBusy)
	}
	p := taker(t, 1, entry.Entry{}, 1, 2)
	p.have(2)
	p.proposes(add(4), api.ErrBusy)
	p.settle(seat.Down{})
	p.proposes(add(4), api.OK)
}

// P1204: a Call of a cell that is not in the zone is ErrArg; one that is not Fresh is ErrStale; where both are so, ErrArg.
func TestProposeOfCalls(t *testing.T) {
	p := holder(t, 1)
	if a := p.does(put(cell(0, 0), 3, 5)); a != (point.Ans{}) {
		t.Errorf("%+v", a)
	}
	for x := range 4 {
		for y := range 4 {
			p := holder(t, 1)
			want := api.OK
			if x > 1 {
				want = api.ErrArg
			}
			p.proposes(put(cell(x, y), 1, 1), want)
		}
	}
	for _, at := range []api.Point{cell(4, 0), cell(0, 4), cell(65535, 65535), cell(2, 0)} {
		p.proposes(put(at, 1, 1), api.ErrArg)
		p.proposes(put(at, 3, 5), api.ErrArg)
	}
	for seq := 1; seq <= 5; seq++ {
		p.proposes(put(cell(0, 0), 3, seq), api.ErrStale)
		p.proposes(put(cell(1, 3), 3, seq), api.ErrStale)
	}
	p.does(put(cell(1, 3), 3, 6))
	p.proposes(put(cell(1, 3), 3, 6), api.ErrStale)
	p.proposes(put(cell(1, 3), 4, 1), api.OK)
}

// P1204: what was refused is not done, and a Call is not done by Propose alone.
func TestProposeDoesNothing(t *testing.T) {
	p := holder(t, 1)
	was := p.s.Shelf()
	p.proposes(put(cell(0, 0), 3, 5), api.OK)
	if !p.s.Shelf().Same(was) {
		t.Errorf("Propose has done the call")
	}
}

// P1204: Add of who is in the chain, or Me, is ErrThere; while somebody is Free ErrBusy, but ErrThere of those.
func TestProposeOfAdds(t *testing.T) {
	for _, free := range []bool{false, true} {
		for node := range nodes {
			p := holder(t, 1, 2, 5)
			want := api.OK
			if free {
				p.releases(5, api.OK)
				want = api.ErrBusy
			}
			if slices.Contains([]int{0, 1, 2, 5}, node) {
				want = api.ErrThere
			}
			p.proposes(add(node), want)
		}
	}
	for node := 1; node < nodes; node++ {
		holder(t).proposes(add(node), api.OK)
	}
	holder(t).proposes(add(0), api.ErrThere)
}

// P1204: Drop of who is not in the chain is ErrNone; Free or not, Gone or not.
func TestProposeOfDrops(t *testing.T) {
	for node := range nodes {
		p, want := holder(t, 1, 2, 5), api.ErrNone
		if slices.Contains([]int{1, 2, 5}, node) {
			want = api.OK
		}
		p.proposes(drop(node), want)
	}
	p := holder(t, 1, 2)
	p.releases(2, api.OK)
	p.hear(p.from(2, seat.Freed, p.m.index))
	p.proposes(drop(5), api.ErrNone)
	p.proposes(drop(2), api.OK)
}

// P1204: Split and Move: ErrArg, unless By is Me, Chain its Chain in its order, Epoch its own and Step; ahead of ErrCell and ErrBusy.
func TestProposeOfTurns(t *testing.T) {
	for _, deep := range []bool{false, true} {
		z := zone()
		if deep {
			z = pathOf("0110")
		}
		start := func() *pair { return holderAt(t, theK, z, 0, 1, 2, 3) }
		for _, wrong := range []func(e *entry.Entry){
			func(e *entry.Entry) { e.By = 4 },
			func(e *entry.Entry) { e.Epoch++ },
			func(e *entry.Entry) { e.Epoch-- },
			func(e *entry.Entry) { e.Epoch = theEpoch },
			func(e *entry.Entry) { e.Epoch = step },
			func(e *entry.Entry) { e.Chain = []int{1, 2} },
			func(e *entry.Entry) { e.Chain = []int{1, 3, 2} },
			func(e *entry.Entry) { e.Chain = []int{1, 2, 3, 4} },
			func(e *entry.Entry) { e.Chain, e.Node = []int{1, 2, 4}, 4 },
			func(e *entry.Entry) { e.Chain = nil },
		} {
			p := start()
			p.releases(3, api.OK)
			for node := 1; node <= 3; node++ {
				split, move := p.splitOf(node), p.moveOf(node)
				wrong(&split)
				wrong(&move)
				p.proposes(split, api.ErrArg)
				p.proposes(move, api.ErrArg)
			}
		}
		for node := 1; node <= 3; node++ {
			p, want := start(), api.OK
			if deep {
				want = api.ErrCell
			}
			p.proposes(p.splitOf(node), want)
			p = start()
			p.proposes(p.moveOf(node), api.OK)
		}
	}
	p := holder(t)
	p.proposes(entry.Entry{Kind: entry.Move, Node: 1, Epoch: theEpoch + step, By: 0, Chain: []int{1}}, api.ErrArg)
}

// P1204: Split and Move to who is Free or Gone are ErrBusy; of one cell the Split is ErrCell all the same; to others they may be.
func TestProposeOfTurnsToTheFree(t *testing.T) {
	for _, gone := range []bool{false, true} {
		for _, text := range []string{"0", "0110"} {
			for node := 1; node <= 3; node++ {
				split, move := api.OK, api.OK
				if node == 3 {
					split, move = api.ErrBusy, api.ErrBusy
				}
				if text == "0110" {
					split = api.ErrCell
				}
				start := func() *pair {
					p := holderAt(t, theK, pathOf(text), 0, 1, 2, 3)
					p.releases(3, api.OK)
					if gone {
						p.hear(p.from(3, seat.Freed, p.m.index))
					}
					return p
				}
				p := start()
				p.proposes(p.splitOf(node), split)
				p = start()
				p.proposes(p.moveOf(node), move)
			}
		}
	}
}

// P1204: who was Gone, and was let in again, may be moved to.
func TestProposeOfTurnsToTheGone(t *testing.T) {
	p := holder(t, 1, 2)
	p.releases(2, api.OK)
	p.hear(p.from(2, seat.Freed, p.m.index))
	if v := p.s.View(); !v.Gone[2] || v.Free != 2 {
		t.Fatalf("%+v", v)
	}
	p.proposes(p.moveOf(2), api.ErrBusy)
	p.does(drop(2))
	if v := p.s.View(); v.Gone[2] || v.Free != -1 {
		t.Fatalf("%+v", v)
	}
	p.does(add(2))
	p.have(2)
	p.proposes(p.moveOf(2), api.OK)
}

// P1204: Release of the last of the chain, of another one, of nobody, and again, when Index has gone on.
func TestRelease(t *testing.T) {
	p := holder(t, 1, 2, 3)
	for _, node := range append(wrongNodes(), 0, 1, 2, 4, 7) {
		p.releases(node, api.ErrNone)
	}
	p.releases(3, api.OK)
	if v := p.s.View(); v.Free != 3 || v.Since != 3 || v.Gone[3] {
		t.Errorf("%+v", v)
	}
	p.does(put(cell(0, 0), 1, 1))
	p.releases(3, api.OK)
	if v := p.s.View(); v.Free != 3 || v.Since != 3 || v.Index != 4 {
		t.Errorf("%+v", v)
	}
	for _, node := range append(wrongNodes(), 0, 1, 2, 4, 7) {
		p.releases(node, api.ErrNone)
	}
	p.hear(p.from(3, seat.Freed, 4))
	p.releases(3, api.OK)
	if v := p.s.View(); v.Free != 3 || v.Since != 3 || !v.Gone[3] {
		t.Errorf("%+v", v)
	}
	p.does(drop(3))
	p.releases(3, api.ErrNone)
	p.releases(2, api.OK)
	if v := p.s.View(); v.Free != 2 || v.Since != 5 {
		t.Errorf("%+v", v)
	}
}

// P1204: Release of who has nobody, of who is not own, and of who is not Ready, which is told ahead of ErrNone.
func TestReleaseRefuses(t *testing.T) {
	for _, node := range append(wrongNodes(), 0, 1, 2, 5) {
		holder(t).releases(node, api.ErrNone)
		heir(t, 1, entry.Entry{}, 1, 2).releases(node, api.ErrArg)
		heir(t, 1, add(5), 1, 2).releases(node, api.ErrArg)
		founded(t, theK, 0, zone(), theEpoch).releases(node, api.ErrBusy)
		taker(t, 1, entry.Entry{}, 1, 2).releases(node, api.ErrBusy)
	}
}

// P1204: Release with each Kind of Pend: ErrBusy with an Add, whoever it is of, and with a Split or Move to that node, even if it is not the last one.
func TestReleaseWithPend(t *testing.T) {
	for _, e := range ofEachKind() {
		for _, node := range []int{math.MinInt, -1, 0, 1, 2, 3, 7, 8} {
			p := holder(t, 1, 2)
			p.proposes(e, api.OK)
			want := api.ErrNone
			if node == 2 {
				want = api.OK
			}
			if e.Kind == entry.Add || (e.Kind == entry.Split || e.Kind == entry.Move) && e.Node == node {
				want = api.ErrBusy
			}
			p.releases(node, want)
			if v := p.s.View(); !entry.Same(v.Pend, e) || want == api.OK && (v.Free != 2 || v.Since != 2) || want != api.OK && v.Free != -1 {
				t.Errorf("with %+v, behind Release(%d): %+v", e, node, v)
			}
		}
	}
}

// P1204: behind a Release an Add must wait till the node is dropped.
func TestAddBehindRelease(t *testing.T) {
	p := holder(t, 1, 2)
	p.releases(2, api.OK)
	p.proposes(add(3), api.ErrBusy)
	p.hear(p.from(2, seat.Freed, p.m.index))
	p.proposes(add(3), api.ErrBusy)
	p.does(drop(2))
	p.proposes(add(2), api.OK)
}
