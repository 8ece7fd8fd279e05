package seat_test

import (
	"slices"
	"testing"

	"glebe/api"
	"glebe/entry"
	"glebe/point"
	"glebe/seat"
)

// syncOf: a Sync that the seat may hear, of that Epoch and Index, from 0, with as many calls done.
func (p *pair) syncOf(epoch, index int, pend entry.Entry, chain ...int) seat.Note {
	n := sync(p.m.me, pend, chain...)
	n.Path, n.Epoch, n.Index, n.State = p.m.path, epoch, index, shelfBytes(p.m.k, p.m.path, index)
	return n
}

// appendOf: likewise an Append.
func (p *pair) appendOf(epoch, index int, pend entry.Entry) seat.Note {
	return seat.Note{Kind: seat.Append, From: 0, To: p.m.me, Path: p.m.path, Epoch: epoch, Index: index, Pend: pend}
}

// P1205: ErrArg of a note that may not be, is to another node, or of another path; whoever hears it.
func TestHearRefuses(t *testing.T) {
	seats := func() []*pair {
		return []*pair{heir(t, 2, entry.Entry{}, 1, 2), heir(t, 2, add(4), 2), holderAt(t, theK, zone(), 2), holderAt(t, theK, zone(), 2, 1), taker(t, 2, drop(4), 2, 4)}
	}
	for _, p := range seats() {
		for _, n := range wrongNotes(2) {
			p.refuses(n, api.ErrArg)
		}
		for kind := -1; kind <= 8; kind++ {
			for _, wrong := range []func(n *seat.Note){
				func(n *seat.Note) { n.To = 4 },
				func(n *seat.Note) { n.From, n.Holder, n.To = 2, 2, 3 },
				func(n *seat.Note) { n.To = -1 },
				func(n *seat.Note) { n.From = 2 },
				func(n *seat.Note) { n.Path = pathOf("1") },
				func(n *seat.Note) { n.Path = api.Path{} },
				func(n *seat.Note) { n.Path = pathOf("00") },
				func(n *seat.Note) { n.Path = pathOf("01") },
				func(n *seat.Note) { n.Path = api.Path{Depth: -1} },
			} {
				n := bare(kind, 2)
				n.Epoch = p.m.epoch
				wrong(&n)
				if kind == seat.Sync {
					n.Chain = []int{n.To, 5}
				}
				p.refuses(n, api.ErrArg)
			}
		}
		p.refuses(seat.Note{}, api.ErrArg)
	}
}

// P1205: ErrArg of a Sync or Append whose Pend is a Split, where the zone is one cell, whatever else is wrong with it.
func TestHearOfASplitOfOneCell(t *testing.T) {
	for _, k := range []int{1, 2, api.MaxK} {
		for depth := 2*k - 1; depth <= 2*k; depth++ {
			z := api.Path{Depth: depth}
			split := entry.Entry{Kind: entry.Split, Node: 2, Epoch: 80, By: 0, Chain: []int{2}}
			move := split
			move.Kind = entry.Move
			start := func() *pair {
				n := sync(2, entry.Entry{}, 2)
				n.Path, n.State = z, shelfBytes(k, z, 1)
				p, _, _ := heired(t, k, 2, n)
				return p
			}
			for _, epoch := range []int{theEpoch - 1, theEpoch, theEpoch + 1} {
				for _, index := range []int{6, 7, 8, 9} {
					for _, e := range []entry.Entry{split, move} {
						p := start()
						_, _, fault := p.hear(p.syncOf(epoch, index, e, 2))
						q := start()
						_, _, other := q.hear(q.appendOf(epoch, index, e))
						if cell := depth == 2*k && e.Kind == entry.Split; cell && (fault != api.ErrArg || other != api.ErrArg) || !cell && epoch == theEpoch && index == 8 && (fault != api.OK || other != api.OK) {
							t.Errorf("K %d, depth %d, %+v: %d, %d", k, depth, e, fault, other)
						}
					}
				}
			}
		}
	}
}

// entries: none, and one of each Kind.
func entries() []entry.Entry {
	return append(ofEachKind(), entry.Entry{})
}

// P1205: Sync of each Epoch and Index, with Pend and without, heard by an heir with Pend and without.
func TestHearSync(t *testing.T) {
	for _, has := range entries() {
		for _, tells := range entries() {
			for _, epoch := range []int{1, theEpoch - 1, theEpoch, theEpoch + 1, lastEpoch} {
				for _, index := range []int{0, 6, 7, 8, 9, 70, lastEpoch} {
					p := heir(t, 2, has, 1, 2)
					n := p.syncOf(epoch, min(index, 70), tells, 5, 2)
					n.Index = index
					was := p.s.View()
					_, answer, e := p.hear(n)
					now := p.s.View()
					want := was
					switch {
					case epoch < theEpoch:
					case epoch > theEpoch || index > 7:
						want.Epoch, want.Index, want.Chain, want.Pend = epoch, index, []int{5, 2}, tells
					case index == 7 && has.Kind == 0:
						want.Pend = tells
					}
					if !sameView(now, want) || (e == api.OK) != (epoch >= theEpoch) || e != api.OK && e != api.ErrStale {
						t.Fatalf("%+v hears %+v: %+v, %d", was, n, now, e)
					}
					upto := now.Index
					if now.Pend.Kind != 0 {
						upto++
					}
					if e == api.OK && !sameNote(answer, seat.Note{Kind: seat.Have, From: 2, To: 0, Path: zone(), Epoch: now.Epoch, Index: upto}) {
						t.Fatalf("%+v hears %+v: %+v", was, n, answer)
					}
				}
			}
		}
	}
}

// P1205: a Sync of its Epoch with a greater Index puts its State there, one that has not more leaves it.
func TestHearSyncOfAState(t *testing.T) {
	for index := range 15 {
		p := heir(t, 2, entry.Entry{}, 1, 2)
		p.hear(p.syncOf(theEpoch, index, add(5), 1, 2))
		want := shelfBytes(theK, zone(), 2)
		if index > 7 {
			want = shelfBytes(theK, zone(), index)
		}
		if got := p.s.Shelf().Put(); !slices.Equal(got, want) {
			t.Errorf("Index %d: %q, want %q", index, got, want)
		}
	}
}

// P1205: a Sync whose Holder is another one: of its Epoch and a greater Index it is taken, of the same Index it is not.
func TestHearSyncOfAnotherHolder(t *testing.T) {
	for index, want := range map[int]int{6: 0, 7: 0, 8: 3} {
		p := heir(t, 2, entry.Entry{}, 1, 2)
		n := p.syncOf(theEpoch, index, entry.Entry{}, 2)
		n.From, n.Holder = 3, 3
		p.answers(n, seat.Note{Kind: seat.Have, From: 2, To: 3, Path: zone(), Epoch: theEpoch, Index: max(7, index)})
		if v := p.s.View(); v.Holder != want {
			t.Errorf("Index %d: Holder %d, want %d", index, v.Holder, want)
		}
	}
}

// P1205: an own seat: ErrArg of its Epoch, ErrStale of a lesser one, of a greater one it is an heir's, with nothing of what it was.
func TestHearSyncOfAnOwnSeat(t *testing.T) {
	for index := range 9 {
		p := holder(t, 1, 2)
		n := bare(seat.Sync, 0)
		n.Index, n.State = index, shelfBytes(theK, zone(), index)
		for epoch, want := range map[int]api.Errno{1: api.ErrStale, theEpoch - 1: api.ErrStale, theEpoch: api.ErrArg} {
			n.Epoch = epoch
			p.refuses(n, want)
		}
		p.releases(2, api.OK)
		p.hear(p.from(2, seat.Freed, 5))
		p.proposes(drop(1), api.OK)
		n.Epoch = theEpoch + 1
		p.answers(n, seat.Note{Kind: seat.Have, To: 3, Path: zone(), Epoch: theEpoch + 1, Index: index})
		want := seat.View{Path: zone(), Epoch: theEpoch + 1, Holder: 3, Index: index, Free: -1, Chain: []int{0}}
		if v := p.s.View(); !sameView(v, want) || p.s.Own() {
			t.Errorf("%+v, want %+v", v, want)
		}
	}
}

// P1205: a State that would be taken, and is no shelf's bytes, is ErrForm; one that would not be taken is not looked at.
func TestHearSyncOfAWrongState(t *testing.T) {
	for _, state := range wrongStates() {
		for _, has := range []entry.Entry{{}, add(5)} {
			for epoch := theEpoch - 1; epoch <= theEpoch+1; epoch++ {
				for index := 6; index <= 8; index++ {
					p := heir(t, 2, has, 1, 2)
					n := p.syncOf(epoch, index, drop(1), 5, 2)
					n.State = state
					want := api.OK
					if epoch < theEpoch {
						want = api.ErrStale
					} else if epoch > theEpoch || index > 7 {
						want = api.ErrForm
					}
					if _, _, e := p.hear(n); e != want {
						t.Errorf("Epoch %d, Index %d, State %q: %d, want %d", epoch, index, state, e, want)
					}
				}
			}
		}
		p := holder(t, 1)
		n := bare(seat.Sync, 0)
		n.Epoch, n.State = theEpoch, state
		p.refuses(n, api.ErrArg)
		n.Epoch++
		p.refuses(n, api.ErrForm)
	}
}

// nudged: an heir's seat that was made by a Split, whose holder may not know it yet: of 2, where 1 is the one that holds it.
func nudged(t *testing.T) *pair {
	t.Helper()
	p := heir(t, 2, entry.Entry{}, 1, 2)
	p.hear(p.appendOf(theEpoch, 8, entry.Entry{Kind: entry.Split, Node: 1, Epoch: theEpoch + step, By: 0, Chain: []int{1, 2}}))
	q := p.turn()[1]
	if v := q.s.View(); !v.Nudge || v.Origin != zone() || v.Holder != 1 || v.Index != 8 {
		t.Fatalf("%+v", v)
	}
	return q
}

// P1205: a Sync of its Epoch, of whatever Index, ends Nudge; a refused one and an Append do not.
func TestHearSyncEndsNudge(t *testing.T) {
	for index := 0; index < 20; index++ {
		for epoch, want := range map[int]bool{theEpoch: true, theEpoch + step: false, theEpoch + step + 1: false} {
			p := nudged(t)
			n := p.syncOf(epoch, index, entry.Entry{}, 0, 2)
			n.From, n.Holder = 1, 1
			p.hear(n)
			if v := p.s.View(); v.Nudge != want {
				t.Errorf("Epoch %d, Index %d: %+v", epoch, index, v)
			}
		}
	}
	p := nudged(t)
	n := p.appendOf(theEpoch+step, 9, add(5))
	n.From = 1
	p.hear(n)
	if v := p.s.View(); !v.Nudge || v.Pend.Kind != entry.Add {
		t.Errorf("%+v", v)
	}
}

// P1205: Append of each Epoch and Index, heard with Pend of each Kind and without.
func TestHearAppend(t *testing.T) {
	for _, has := range entries() {
		for _, epoch := range []int{1, theEpoch - 1, theEpoch, theEpoch + 1, lastEpoch} {
			for _, index := range []int{0, 6, 7, 8, 9, 10, lastEpoch} {
				p := heir(t, 2, has, 1, 2)
				was := p.s.View()
				upto := 7
				if has.Kind != 0 {
					upto = 8
				}
				turn := has.Kind == entry.Split || has.Kind == entry.Move
				_, answer, e := p.hear(p.appendOf(epoch, index, add(6)))
				now := p.s.View()
				var want api.Errno
				switch {
				case epoch != theEpoch || index > upto+1:
					want = api.ErrStale
				case index == upto+1 && turn:
					want = api.ErrArg
				case index == upto+1:
					upto++
					if !entry.Same(now.Pend, add(6)) || now.Index != index-1 {
						t.Errorf("Epoch %d, Index %d: %+v", epoch, index, now)
					}
				}
				if e != want || (want != api.OK || index <= 7) && !sameView(was, now) {
					t.Errorf("%+v, Epoch %d, Index %d: %d, want %d", was, epoch, index, e, want)
				}
				if e == api.OK && !sameNote(answer, seat.Note{Kind: seat.Have, From: 2, To: 0, Path: zone(), Epoch: theEpoch, Index: upto}) {
					t.Errorf("Epoch %d, Index %d: %+v", epoch, index, answer)
				}
			}
		}
	}
}

// P1205: an own seat hears no Append.
func TestHearAppendOfAnOwnSeat(t *testing.T) {
	for epoch := theEpoch - 1; epoch <= theEpoch+1; epoch++ {
		for index := range 5 {
			p := holderAt(t, theK, zone(), 2, 1)
			p.refuses(p.appendOf(epoch, index, add(6)), api.ErrStale)
		}
	}
}

// P1205: what is done first, when the next entry is told: a Call by the shelf, an Add and a Drop in the chain.
func TestHearAppendDoes(t *testing.T) {
	p := heir(t, 2, put(cell(1, 1), 4, 4), 1, 2)
	for i, x := range []struct {
		next  entry.Entry
		chain []int
	}{{add(5), []int{1, 2}}, {drop(1), []int{1, 2, 5}}, {drop(6), []int{2, 5}}, {add(1), []int{2, 5}}, {drop(2), []int{2, 5, 1}}, {add(7), []int{5, 1}}, {put(cell(0, 0), 0, 9), []int{5, 1, 7}}} {
		p.answers(p.appendOf(theEpoch, 9+i, x.next), seat.Note{Kind: seat.Have, From: 2, To: 0, Path: zone(), Epoch: theEpoch, Index: 9 + i})
		if v := p.s.View(); !slices.Equal(v.Chain, x.chain) || v.Index != 8+i || !entry.Same(v.Pend, x.next) {
			t.Errorf("%d: %+v", i, v)
		}
	}
	if a := p.s.Shelf().Get(cell(1, 1), "k"); a != (point.Ans{Found: true, Value: "v", Ver: 1}) {
		t.Errorf("%+v", a)
	}
	p.refuses(p.appendOf(theEpoch, 17, add(0)), api.ErrStale)
}

// P1201, P1205: an entry that no holder would have told: a node that is in the chain already comes to its end; no chain has one twice.
func TestHearAppendOfAddsAgain(t *testing.T) {
	p := heir(t, 2, entry.Entry{}, 1, 2, 3)
	for i := range 300 {
		p.hear(p.appendOf(theEpoch, 8+i, add(i*5%nodes)))
		if v := p.s.View(); !entry.RightChain(v.Chain) || v.Index != 7+i {
			t.Fatalf("%+v", v)
		}
	}
	p = heir(t, 2, add(1), 1, 2, 3)
	p.hear(p.appendOf(theEpoch, 9, add(5)))
	if v := p.s.View(); !slices.Equal(v.Chain, []int{2, 3, 1}) {
		t.Errorf("%+v", v)
	}
}

// P1205: Have of each Epoch, from a node in the chain and from others, with and without Pend.
func TestHearHave(t *testing.T) {
	for _, pend := range entries() {
		for from := 1; from < nodes; from++ {
			for epoch := theEpoch; epoch <= theEpoch+2; epoch++ {
				for index := 6; index <= 9; index++ {
					p := taker(t, 3, pend, 3, 1, 2)
					n := p.from(from, seat.Have, index)
					n.Epoch = epoch
					if from == 3 {
						p.refuses(n, api.ErrArg)
						continue
					}
					want, node := api.ErrStale, from == 1 || from == 2
					if node && epoch == theEpoch+1 {
						want = api.OK
					}
					l, answer, e := p.hear(n)
					v := p.s.View()
					acked := want == api.OK && pend.Kind != 0 && index == 8
					if e != want || len(l) != 1 || !sameNote(answer, seat.Note{}) || v.Synced[from] != (want == api.OK) || v.Acked[from] != acked {
						t.Errorf("Have from %d, Epoch %d, Index %d: %d, %+v", from, epoch, index, e, v)
					}
				}
			}
		}
	}
	p := heir(t, 2, entry.Entry{}, 1, 2)
	p.refuses(p.from(1, seat.Have, 7), api.ErrStale)
	p.refuses(p.from(0, seat.Have, 7), api.ErrStale)
}

// P1205: Have with an Index below that with which the node came is ErrStale: it tells of a seat that the node had before.
func TestHearHaveOfBefore(t *testing.T) {
	p := holder(t, 1)
	for i := range 4 {
		p.does(put(cell(0, 0), 1, i+1))
	}
	p.proposes(add(2), api.OK)
	p.refuses(p.from(2, seat.Have, 5), api.ErrStale)
	p.have(1)
	p.settle(seat.Down{})
	if v := p.s.View(); v.Came[2] != 6 || v.Index != 6 || v.Came[1] != 1 {
		t.Fatalf("%+v", v)
	}
	for index := range 6 {
		p.refuses(p.from(2, seat.Have, index), api.ErrStale)
	}
	p.answers(p.from(2, seat.Have, 6), seat.Note{})
	p.answers(p.from(1, seat.Have, 1), seat.Note{})
	p.refuses(p.from(1, seat.Have, 0), api.ErrStale)
	if v := p.s.View(); !v.Synced[2] || !v.Ready {
		t.Errorf("%+v", v)
	}
}

// P1205: a node that came again is not Synced, whatever it was.
func TestHearHaveOfWhoCameAgain(t *testing.T) {
	p := holder(t, 1, 2)
	p.does(drop(2))
	p.refuses(p.from(2, seat.Have, 9), api.ErrStale)
	p.does(add(2))
	if v := p.s.View(); v.Synced[2] || v.Came[2] != 4 {
		t.Errorf("%+v", v)
	}
	p.refuses(p.from(2, seat.Have, 3), api.ErrStale)
	p.answers(p.from(2, seat.Have, 4), seat.Note{})
}

// P1205: Dismiss of each Epoch and Index, with Pend of each Kind and without; of an own seat.
func TestHearDismiss(t *testing.T) {
	for _, has := range entries() {
		upto := 7
		if has.Kind != 0 {
			upto = 8
		}
		for _, epoch := range []int{1, theEpoch - 1, theEpoch, theEpoch + 1, lastEpoch} {
			for _, index := range []int{0, 6, 7, 8, 9, lastEpoch} {
				p := heir(t, 2, has, 1, 2)
				n := p.from(0, seat.Dismiss, index)
				n.Epoch = epoch
				l, answer, e := p.hear(n)
				if epoch < theEpoch || index < upto {
					if e != api.ErrStale || len(l) != 1 {
						t.Errorf("%+v hears %+v: %d, %d seats", p.m.view(), n, e, len(l))
					}
					continue
				}
				if e != api.OK || len(l) != 0 || !sameNote(answer, seat.Note{Kind: seat.Freed, From: 2, To: 0, Path: zone(), Epoch: epoch, Index: index}) {
					t.Errorf("%+v hears %+v: %+v, %d", p.m.view(), n, answer, e)
				}
				q := taker(t, 2, has, 2, 1)
				n.From = 1
				q.refuses(n, api.ErrStale)
			}
		}
	}
	p := heir(t, 2, entry.Entry{}, 1, 2)
	if _, answer, e := p.hear(p.from(5, seat.Dismiss, 7)); e != api.OK || answer.To != 5 {
		t.Errorf("of another one: %+v, %d", answer, e)
	}
}

// P1205: Freed of who is Free, with an Index at least Since.
func TestHearFreed(t *testing.T) {
	for _, free := range []bool{false, true} {
		for from := 1; from < nodes; from++ {
			for epoch := theEpoch - 1; epoch <= theEpoch+1; epoch++ {
				for index := range 6 {
					p := holder(t, 1, 2)
					p.does(put(cell(0, 0), 1, 1))
					if free {
						p.releases(2, api.OK)
					}
					p.does(put(cell(0, 0), 1, 2))
					n := p.from(from, seat.Freed, index)
					n.Epoch = epoch
					want := api.ErrStale
					if free && from == 2 && epoch == theEpoch && index >= 3 {
						want = api.OK
					}
					l, answer, e := p.hear(n)
					if v := p.s.View(); e != want || len(l) != 1 || !sameNote(answer, seat.Note{}) || v.Gone[from] != (want == api.OK) {
						t.Errorf("Free %v, Freed from %d, Epoch %d, Index %d: %d, %+v", free, from, epoch, index, e, v)
					}
				}
			}
		}
	}
	p := heir(t, 2, drop(1), 1, 2)
	p.refuses(p.from(1, seat.Freed, 9), api.ErrStale)
}

// P1205: Freed of a node whose Drop was found when taking over; where it was proposed, or is of another node, or another Kind, it is ErrStale.
func TestHearFreedOfADrop(t *testing.T) {
	for _, pend := range entries() {
		for from := 1; from < nodes; from++ {
			if from == 3 {
				continue
			}
			p := taker(t, 3, pend, 3, 1, 2)
			want := api.ErrStale
			if pend.Kind == entry.Drop && pend.Node == from {
				want = api.OK
			}
			n := p.from(from, seat.Freed, 0)
			if _, _, e := p.hear(n); e != want || p.s.View().Gone[from] != (want == api.OK) {
				t.Errorf("with %+v: Freed from %d: %d, want %d", pend, from, e, want)
			}
			n.Epoch--
			p.refuses(n, api.ErrStale)
		}
	}
	p := holder(t, 1, 2)
	p.proposes(drop(1), api.OK)
	p.refuses(p.from(1, seat.Freed, 9), api.ErrStale)
	q := taker(t, 3, drop(6), 3, 1)
	q.refuses(q.from(6, seat.Freed, 9), api.ErrStale)
}

// P1205: Freed of who was Free, but is dropped by now.
func TestHearFreedBehindADrop(t *testing.T) {
	p := holder(t, 1, 2)
	p.releases(2, api.OK)
	p.answers(p.from(2, seat.Freed, 2), seat.Note{})
	p.does(drop(2))
	p.refuses(p.from(2, seat.Freed, 9), api.ErrStale)
	if v := p.s.View(); v.Gone != (seat.Down{}) || v.Free != -1 {
		t.Errorf("%+v", v)
	}
}

// P1205: Grant of a Split and a Move of that Epoch, heard by an heir: the new seats; of others and by others ErrStale.
func TestHearGrant(t *testing.T) {
	for _, has := range entries() {
		for _, epoch := range []int{theEpoch, theEpoch + step - 1, theEpoch + step, theEpoch + step + 1} {
			p := heir(t, 2, has, 1, 2)
			n := p.from(1, seat.Grant, 0)
			n.Epoch = epoch
			seats := 0
			if epoch == theEpoch+step {
				seats = map[int]int{entry.Split: 2, entry.Move: 1}[has.Kind]
			}
			l, answer, e := p.hear(n)
			switch {
			case seats == 0 && (e != api.ErrStale || len(l) != 1 || l[0] != p):
				t.Errorf("with %+v, Epoch %d: %d", has, epoch, e)
			case seats > 0 && (e != api.OK || len(l) != seats || slices.Contains(l, p) || !sameNote(answer, seat.Note{})):
				t.Errorf("with %+v, Epoch %d: %d seats, %+v, %d", has, epoch, len(l), answer, e)
			}
			q := taker(t, 2, has, 2, 1)
			n.Epoch = epoch
			q.refuses(n, api.ErrStale)
		}
	}
	p := holder(t, 1, 2)
	p.proposes(p.splitOf(1), api.OK)
	n := p.from(1, seat.Grant, 0)
	n.Epoch = theEpoch + step
	p.refuses(n, api.ErrStale)
}

// P1205: with each error nothing is changed, where several apply the first one is told.
func TestHearTellsTheFirstFault(t *testing.T) {
	p := holder(t, 1, 2)
	n := bare(seat.Sync, 0)
	n.Epoch = theEpoch
	p.refuses(n, api.ErrArg)
	n.Epoch, n.Path = 1, pathOf("1")
	p.refuses(n, api.ErrArg)
	q := heir(t, 2, entry.Entry{Kind: entry.Move, Node: 2, Epoch: 99, By: 0, Chain: []int{2}}, 2)
	for index, want := range map[int]api.Errno{8: api.OK, 9: api.ErrArg, 10: api.ErrStale} {
		if _, _, e := q.hear(q.appendOf(theEpoch, index, add(1))); e != want {
			t.Errorf("Index %d: %d, want %d", index, e, want)
		}
	}
	q.refuses(q.appendOf(theEpoch-1, 9, add(1)), api.ErrStale)
}
