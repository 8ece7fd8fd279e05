package seat_test

import (
	"slices"
	"testing"

	"glebe/api"
	"glebe/entry"
	"glebe/point"
	"glebe/seat"
)

// sends: these notes, in this order, and each may be.
func (p *pair) sends(down seat.Down, want ...seat.Note) {
	p.t.Helper()
	l := p.out(down)
	if !slices.EqualFunc(l, want, sameNote) {
		p.t.Errorf("%+v: Out(%v) = %+v, want %+v", p.m.view(), down, l, want)
	}
	for _, n := range l {
		if !seat.RightNote(n) {
			p.t.Errorf("%+v may not be", n)
		}
	}
}

// to: a note of the seat's, with no more than all have.
func (p *pair) to(node, kind, index int) seat.Note {
	return seat.Note{Kind: kind, From: p.m.me, To: node, Path: p.m.path, Epoch: p.m.epoch, Index: index}
}

func (p *pair) syncTo(node int) seat.Note {
	n := p.to(node, seat.Sync, p.s.View().Index)
	n.Holder, n.Chain, n.Pend, n.State = p.m.me, p.s.View().Chain, p.s.View().Pend, p.s.Shelf().Put()
	return n
}

func (p *pair) appendTo(node int) seat.Note {
	n := p.to(node, seat.Append, p.s.View().Index+1)
	n.Pend = p.s.View().Pend
	return n
}

// P1207: an own seat with nothing to tell: no heirs, and heirs that have all.
func TestOutOfNothing(t *testing.T) {
	for _, down := range allDowns(0, 1, 2) {
		founded(t, theK, 0, zone(), theEpoch).sends(down)
		holder(t).sends(down)
		holder(t, 1, 2).sends(down)
	}
}

// P1207: Sync to each that is not Synced, in the order of the chain, with Pend and without; none to who is down.
func TestOutOfSyncs(t *testing.T) {
	for _, pend := range entries() {
		if pend.Kind == entry.Drop {
			continue
		}
		p := taker(t, 3, pend, 3, 2, 1, 5)
		p.sends(seat.Down{}, p.syncTo(2), p.syncTo(1), p.syncTo(5))
		p.sends(downOf(1), p.syncTo(2), p.syncTo(5))
		p.sends(downOf(5, 2, 1, 0))
		p.answers(p.from(1, seat.Have, 7), seat.Note{})
		if pend.Kind == 0 {
			p.sends(seat.Down{}, p.syncTo(2), p.syncTo(5))
			continue
		}
		p.sends(seat.Down{}, p.syncTo(2), p.appendTo(1), p.syncTo(5))
		p.have(1)
		p.sends(seat.Down{}, p.syncTo(2), p.syncTo(5))
	}
	p := holder(t, 4)
	p.does(put(cell(1, 1), 1, 1))
	p.does(add(2))
	p.sends(seat.Down{}, p.syncTo(2))
	n := p.syncTo(2)
	q, answer, e := heired(t, theK, 2, n)
	if e != api.OK || !sameNote(answer, p.from(2, seat.Have, 3)) || !q.s.Shelf().Same(p.s.Shelf()) || n.Index != 3 || !slices.Equal(n.Chain, []int{4, 2}) {
		t.Errorf("%+v: %+v, %d", n, answer, e)
	}
}

// P1207: Append to each that is Synced, and not Acked, with Upto; of each Kind of entry.
func TestOutOfAppends(t *testing.T) {
	for _, e := range ofEachKind() {
		if e.Kind == entry.Drop {
			continue
		}
		p := holder(t, 1, 2)
		p.proposes(e, api.OK)
		p.sends(seat.Down{}, p.appendTo(1), p.appendTo(2))
		if n := p.appendTo(1); n.Index != 3 || !entry.Same(n.Pend, e) {
			t.Errorf("%+v", n)
		}
		p.sends(downOf(2), p.appendTo(1))
		p.answers(p.from(1, seat.Have, 2), seat.Note{})
		p.sends(seat.Down{}, p.appendTo(1), p.appendTo(2))
		p.have(1)
		p.sends(seat.Down{}, p.appendTo(2))
		p.have(2)
		p.sends(seat.Down{})
	}
}

// P1207: with a Drop as Pend: nothing to the node, since it is out, where the Drop was proposed; a Dismiss, where it was found.
func TestOutOfADrop(t *testing.T) {
	for node := 1; node <= 2; node++ {
		p := holder(t, 1, 2)
		p.proposes(drop(node), api.OK)
		p.sends(seat.Down{}, p.appendTo(3-node))
		q := taker(t, 3, drop(node), 3, 1, 2)
		first, second := q.syncTo(1), q.to(2, seat.Dismiss, 7)
		if node == 1 {
			first, second = q.to(1, seat.Dismiss, 7), q.syncTo(2)
		}
		q.sends(seat.Down{}, first, second)
		q.sends(downOf(node), q.syncTo(3-node))
		q.have(node)
		q.sends(seat.Down{}, first, second)
		q.answers(q.from(node, seat.Freed, 7), seat.Note{})
		q.sends(seat.Down{}, q.syncTo(3-node))
		q.have(3 - node)
		q.sends(seat.Down{})
	}
}

// P1207: with Free: a Dismiss at the end, of its Index then, till it is Gone, or down, or dropped.
func TestOutOfFree(t *testing.T) {
	p := holder(t, 1, 2)
	p.releases(2, api.OK)
	p.sends(seat.Down{}, p.to(2, seat.Dismiss, 2))
	p.sends(downOf(2))
	p.sends(downOf(1), p.to(2, seat.Dismiss, 2))
	p.proposes(put(cell(0, 0), 1, 1), api.OK)
	p.sends(seat.Down{}, p.appendTo(1), p.appendTo(2), p.to(2, seat.Dismiss, 2))
	p.have(1)
	p.have(2)
	p.settle(seat.Down{})
	p.sends(seat.Down{}, p.to(2, seat.Dismiss, 3))
	p.answers(p.from(2, seat.Freed, 2), seat.Note{})
	p.sends(seat.Down{})
	p.proposes(put(cell(0, 0), 1, 2), api.OK)
	p.sends(seat.Down{}, p.appendTo(1))
	p.have(1)
	p.settles(seat.Down{}, 1, seat.Done{Entry: put(cell(0, 0), 1, 2)})
	p.proposes(drop(2), api.OK)
	p.sends(seat.Down{}, p.appendTo(1))

	p = holder(t, 1, 2)
	p.does(add(3))
	p.releases(3, api.OK)
	p.sends(seat.Down{}, p.syncTo(3), p.to(3, seat.Dismiss, 3))
	p.proposes(drop(3), api.OK)
	p.sends(seat.Down{}, p.appendTo(1), p.appendTo(2))
	p.have(1)
	p.have(2)
	p.settles(seat.Down{}, 1, seat.Done{Entry: drop(3)})
	p.sends(seat.Down{})
}

// P1207: an heir sends nothing, unless it has Nudge: then a Grant to the Holder, of the path that it was made of, unless that is down.
func TestOutOfAnHeir(t *testing.T) {
	for _, pend := range entries() {
		for _, down := range allDowns(0, 1, 2) {
			heir(t, 2, pend, 1, 2).sends(down)
		}
	}
	p := nudged(t)
	grant := seat.Note{Kind: seat.Grant, From: 2, To: 1, Path: zone(), Epoch: theEpoch + step}
	for _, down := range allDowns(0, 1, 2) {
		if down[1] {
			p.sends(down)
		} else {
			p.sends(down, grant)
		}
	}
	n := p.syncOf(theEpoch+step, 8, entry.Entry{}, 0, 2)
	n.From, n.Holder = 1, 1
	p.hear(n)
	p.sends(seat.Down{})
}

// P1207: a Split from its proposal on, till both halves are Ready: who holds the upper half hears of it by a Grant, and by no other note.
func TestGranted(t *testing.T) {
	p := holder(t, 1, 2)
	p.does(put(cell(1, 3), 1, 1))
	heirs := map[int]*pair{}
	for node := 1; node <= 2; node++ {
		n := p.syncTo(node)
		heirs[node], _, _ = heired(t, theK, node, n)
	}
	p.proposes(p.splitOf(1), api.OK)
	for _, n := range p.out(seat.Down{}) {
		_, have, _ := heirs[n.To].hear(n)
		p.hear(have)
	}
	halves := p.settles(seat.Down{}, 2, seat.Done{Entry: p.splitOf(1)})
	low, high := halves[0], halves[1]
	high.sends(seat.Down{}, seat.Note{Kind: seat.Grant, From: 0, To: 1, Path: zone(), Epoch: theEpoch + step})
	l, _, e := heirs[1].hear(high.out(seat.Down{})[0])
	if e != api.OK || len(l) != 2 || l[0].s.Own() || !l[1].s.Own() || !l[1].s.Holds() {
		t.Fatalf("%d, %d seats", e, len(l))
	}
	upper := l[1]
	upper.settle(seat.Down{})
	upper.sends(seat.Down{}, upper.syncTo(0), upper.syncTo(2))
	high.answers(upper.syncTo(0), upper.from(0, seat.Have, 4))
	high.sends(seat.Down{})
	upper.have(0)
	upper.have(2)
	upper.settle(seat.Down{})
	if v := upper.s.View(); !v.Ready || !slices.Equal(v.Chain, []int{0, 2}) || upper.s.Shelf().Len() != 1 {
		t.Errorf("%+v", v)
	}
	low.sends(seat.Down{}, low.syncTo(1), low.syncTo(2))
	l[0].answers(low.syncTo(1), low.from(1, seat.Have, 4))
}

// half: of the zone, of a node and an Epoch, that it holds alone, with so many calls done.
func half(t *testing.T, k, me int, text string, epoch, calls int) *pair {
	t.Helper()
	p := founded(t, k, me, pathOf(text), epoch)
	p.settle(seat.Down{})
	at, _ := corner(k, pathOf(text))
	for i := range calls {
		p.does(put(at, calls, i+1))
	}
	return p
}

// mergeIs: both ways round.
func mergeIs(t *testing.T, a, b *pair, want api.Errno) {
	t.Helper()
	for _, x := range [][2]*pair{{a, b}, {b, a}} {
		if _, e := mergedOf(t, x[0], x[1]); e != want {
			t.Errorf("Merge of %+v and %+v: %d, want %d", x[0].m.view(), x[1].m.view(), e, want)
		}
	}
}

// P1207: Merge of siblings, either way round: the parent, of the greater Epoch and Step, and the greater Index and one.
func TestMerge(t *testing.T) {
	for _, text := range []string{"", "1", "011"} {
		for _, calls := range [][2]int{{0, 0}, {3, 1}, {1, 4}} {
			for _, epochs := range [][2]int{{1, 1}, {5, 70}, {70, 5}, {lastEpoch - step, 9}} {
				a := half(t, theK, 3, text+"0", epochs[0], calls[0])
				b := half(t, theK, 3, text+"1", epochs[1], calls[1])
				want := seat.View{Path: pathOf(text), Epoch: max(epochs[0], epochs[1]) + step, Holder: 3, Me: 3, Index: max(calls[0], calls[1]) + 1, Free: -1, Ready: true}
				for _, x := range [][2]*pair{{a, b}, {b, a}} {
					m, e := mergedOf(t, x[0], x[1])
					if e != api.OK || !sameView(m.s.View(), want) || m.s.Shelf().Len() != a.s.Shelf().Len()+b.s.Shelf().Len() {
						t.Fatalf("%d: %+v, want %+v", e, m.s.View(), want)
					}
					m.does(add(4))
				}
			}
		}
	}
}

// P1207: of a client that both halves answered under one Seq the first one's answer is kept: a's.
func TestMergeOfAnswers(t *testing.T) {
	a, b := half(t, theK, 0, "0", 1, 0), half(t, theK, 0, "1", 1, 0)
	a.does(put(cell(0, 0), 5, 1))
	a.does(put(cell(0, 0), 1, 5))
	b.does(put(cell(3, 3), 1, 5))
	for i, x := range [][2]*pair{{a, b}, {b, a}} {
		m, _ := mergedOf(t, x[0], x[1])
		_, ans := m.s.Shelf().Look(1, 5)
		want := point.Ans{}
		if i == 0 {
			want = point.Ans{Found: true, Value: "v", Ver: 2}
		}
		if ans != want {
			t.Errorf("%d: %+v, want %+v", i, ans, want)
		}
	}
}

// P1207: Merge of what is not own, of unlike nodes and of unlike k is ErrArg, ahead of all else.
func TestMergeRefusesWhatIsNotOnes(t *testing.T) {
	a := half(t, theK, 2, "0", 1, 0)
	for _, text := range []string{"1", "0", "", "11"} {
		mergeIs(t, a, half(t, theK, 3, text, 1, 0), api.ErrArg)
		mergeIs(t, a, half(t, theK+1, 2, text, 1, 0), api.ErrArg)
		mergeIs(t, a, half(t, api.MaxK, 3, text, 1, 0), api.ErrArg)
	}
	h := heir(t, 2, entry.Entry{}, 1, 2)
	mergeIs(t, h, half(t, theK, 2, "1", 1, 0), api.ErrArg)
	mergeIs(t, h, h, api.ErrArg)
	mergeIs(t, h, half(t, theK, 0, "1", 1, 0), api.ErrArg)
	for _, s := range []*seat.Seat{nil, new(seat.Seat)} {
		for _, x := range [][2]*seat.Seat{{a.s, s}, {s, a.s}, {s, s}} {
			if m, e := seat.Merge(x[0], x[1]); m != nil || e != api.ErrArg {
				t.Errorf("Merge of no seat: %v, %d", m, e)
			}
		}
	}
}

// P1207: Merge of paths that are no siblings is ErrMeet, Ready or not.
func TestMergeRefusesWhatAreNone(t *testing.T) {
	texts := []string{"", "0", "1", "00", "01", "10", "11", "000", "001", "110", "111"}
	for _, x := range texts {
		for _, y := range texts {
			a, b := half(t, theK, 2, x, 1, 0), half(t, theK, 2, y, 1, 0)
			n := founded(t, theK, 2, pathOf(y), 1)
			if len(x) > 0 && len(x) == len(y) && x[:len(x)-1] == y[:len(y)-1] && x != y {
				mergeIs(t, a, b, api.OK)
				mergeIs(t, a, n, api.ErrBusy)
				mergeIs(t, n, founded(t, theK, 2, pathOf(x), 1), api.ErrBusy)
				continue
			}
			mergeIs(t, a, b, api.ErrMeet)
			mergeIs(t, a, a, api.ErrMeet)
			mergeIs(t, a, n, api.ErrMeet)
		}
	}
}

// P1207: Merge of one that is not Ready, has Pend, has heirs.
func TestMergeRefusesTheBusy(t *testing.T) {
	right := half(t, theK, 0, "1", 1, 0)
	mergeIs(t, right, founded(t, theK, 0, zone(), 1), api.ErrBusy)
	pending := holder(t)
	pending.proposes(put(cell(0, 0), 1, 1), api.OK)
	mergeIs(t, right, pending, api.ErrBusy)
	pending.settle(seat.Down{})
	mergeIs(t, right, pending, api.OK)
	mergeIs(t, right, holder(t, 1), api.ErrBusy)
	mergeIs(t, right, holder(t, 1, 2), api.ErrBusy)
	p := holder(t, 1)
	p.does(drop(1))
	mergeIs(t, right, p, api.OK)
}

// P1207: Holds of an own seat, Ready or not, with Inherit and each Kind of Pend, and without Inherit.
func TestHolds(t *testing.T) {
	for _, pend := range entries() {
		p := taker(t, 3, pend, 3, 1, 2)
		want := pend.Kind != entry.Split && pend.Kind != entry.Move
		if p.s.Holds() != want || !p.s.Own() {
			t.Errorf("with %+v, found: Holds %v", pend, p.s.Holds())
		}
		h := heir(t, 3, pend, 3, 1, 2)
		if h.s.Holds() || h.s.Own() {
			t.Errorf("an heir with %+v Holds", pend)
		}
		q := holder(t, 1, 2)
		if pend.Kind != 0 {
			q.proposes(pend, api.OK)
		}
		if !q.s.Holds() {
			t.Errorf("with %+v, proposed: not Holds", pend)
		}
	}
	if !founded(t, theK, 0, zone(), 1).s.Holds() {
		t.Errorf("of a seat that is not Ready: not Holds")
	}
}
