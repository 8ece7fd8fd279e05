package seat_test

import (
	"math"
	"math/rand"
	"slices"
	"testing"

	"glebe/api"
	"glebe/entry"
	"glebe/point"
	"glebe/seat"
)

// P1201: seats that a Turn makes are apart: from the seat, from each other, and from those of another Turn.
func TestTurnsAreApart(t *testing.T) {
	for _, kind := range []int{entry.Split, entry.Move} {
		p := heir(t, 2, entry.Entry{Kind: kind, Node: 2, Epoch: theEpoch + step, By: 0, Chain: []int{1, 2}}, 1, 2)
		one, two := p.turn(), p.turn()
		q := one[len(one)-1]
		q.settle(downOf(0, 1))
		at, _ := corner(theK, q.m.path)
		q.proposes(put(at, 6, 1), api.OK)
		if _, done := q.settle(downOf(0, 1)); len(done) != 1 {
			t.Fatalf("%+v: nothing was done", q.m.view())
		}
		q.proposes(add(5), api.OK)
		q.settle(downOf(0, 1))
		for _, x := range slices.Concat(one, two, []*pair{p}) {
			tells(t, x.s, x.m)
		}
		p.hear(p.syncOf(theEpoch, 30, entry.Entry{}, 2))
		p.settle(downOf(0))
		p.does(add(4))
		for _, x := range slices.Concat(one, two) {
			tells(t, x.s, x.m)
		}
	}
}

// P1201: an entry that is told as done is apart from the seat in whose place others stand now, and from those.
func TestDoneIsApart(t *testing.T) {
	for _, kind := range []int{entry.Split, entry.Move} {
		p := holder(t, 1, 2)
		e := p.splitOf(1)
		e.Kind = kind
		p.proposes(e, api.OK)
		p.have(1)
		p.have(2)
		was := p.s.View()
		l, done := p.s.Settle(seat.Down{})
		views := []seat.View{l[0].View(), l[len(l)-1].View()}
		fill(done[0].Entry.Chain)
		if now := p.s.View(); !sameView(now, was) {
			t.Errorf("%+v has become %+v", was, now)
		}
		for i, s := range []*seat.Seat{l[0], l[len(l)-1]} {
			if now := s.View(); !sameView(now, views[i]) {
				t.Errorf("%+v has become %+v", views[i], now)
			}
		}
	}
}

// P1201: what comes of a merged seat is not in those that were merged, and the other way round.
func TestMergedIsApart(t *testing.T) {
	a, b := half(t, theK, 0, "0", 1, 2), half(t, theK, 0, "1", 1, 3)
	m, _ := mergedOf(t, a, b)
	o, _ := mergedOf(t, b, a)
	m.does(put(cell(0, 0), 6, 1))
	m.does(put(cell(3, 3), 6, 2))
	m.does(add(4))
	a.does(put(cell(1, 1), 6, 9))
	b.does(add(7))
	b.proposes(put(cell(2, 2), 5, 9), api.OK)
	for _, x := range []*pair{a, b, m, o} {
		tells(t, x.s, x.m)
	}
}

// P1201: two heirs of one note, and the holder that sent it.
func TestHeirsAreApart(t *testing.T) {
	p := holder(t, 1)
	p.does(put(cell(0, 0), 1, 1))
	p.does(add(2))
	n := p.syncTo(2)
	a, _, _ := heired(t, theK, 2, n)
	b, _, _ := heired(t, theK, 2, n)
	p.have(2)
	p.does(put(cell(0, 0), 1, 2))
	p.proposes(put(cell(1, 1), 1, 3), api.OK)
	a.hear(p.appendTo(2))
	a.hear(b.appendOf(theEpoch, 4, put(cell(1, 0), 1, 2)))
	a.hear(b.appendOf(theEpoch, 5, add(6)))
	a.hear(b.appendOf(theEpoch, 6, drop(1)))
	for _, x := range []*pair{p, a, b} {
		tells(t, x.s, x.m)
	}
	if b.s.View().Index != 3 || a.s.View().Index != 5 {
		t.Errorf("%+v, %+v", a.s.View(), b.s.View())
	}
}

// someNumber: huge, negative, or near to such as may be.
func someNumber(r *rand.Rand) int {
	l := []int{math.MinInt, math.MinInt + 1, -lastEpoch, -1 << 32, -2, -1, 0, 0, 1, 2, 3, 4, 5, 6, 7, 8, 10, 11, 1 << 32, lastEpoch, lastEpoch + 1, lastNum, math.MaxInt - 1, math.MaxInt}
	return l[r.Intn(len(l))]
}

func someNumbers(r *rand.Rand) []int {
	var l []int
	for range r.Intn(5) {
		l = append(l, someNumber(r))
	}
	if r.Intn(50) == 0 {
		l = slices.Repeat(append(l, someNumber(r)), 1<<10)
	}
	return l
}

// someEntry: of any fields.
func someEntry(r *rand.Rand) entry.Entry {
	if r.Intn(3) == 0 {
		return entry.Entry{}
	}
	e := entry.Entry{Kind: someNumber(r), Node: someNumber(r)}
	if r.Intn(2) == 0 {
		e.Epoch, e.By, e.Chain = someNumber(r), someNumber(r), someNumbers(r)
	}
	if r.Intn(2) == 0 {
		e.Op = point.Op{Kind: someNumber(r), At: api.Point{X: someNumber(r), Y: someNumber(r)}, Key: "k", Client: someNumber(r), Seq: someNumber(r)}
	}
	return e
}

// someNote: of any fields; most often to the seat, so that more of it is looked at.
func someNote(r *rand.Rand, p *pair) seat.Note {
	n := p.from(someNumber(r), someNumber(r), someNumber(r))
	for _, field := range []*int{&n.To, &n.Path.Depth, &n.Path.Bits, &n.Epoch} {
		if r.Intn(5) == 0 {
			*field = someNumber(r)
		}
	}
	if r.Intn(2) == 0 {
		n.Holder, n.Chain, n.Pend = n.From, append(someNumbers(r), n.To), someEntry(r)
	}
	if r.Intn(3) == 0 {
		n.State = shelfBytes(theK, zone(), 2)
	}
	return n
}

// P7: there is an answer, whatever is asked.
func TestAnything(t *testing.T) {
	r := rand.New(rand.NewSource(7))
	for range 800 {
		p := []*pair{holder(t, 1, 2), holderAt(t, theK, zone(), 2), heir(t, 2, add(5), 1, 2), taker(t, 2, drop(3), 2, 3), nudged(t)}[r.Intn(5)]
		for range 12 {
			n := someNote(r, p)
			noteIs(t, n, mayNote(n))
			heired(t, theK, n.To, n)
			heired(t, someNumber(r), someNumber(r), n)
			p.propose(someEntry(r))
			p.release(someNumber(r))
			if l, _, _ := p.hear(n); len(l) == 0 {
				break
			}
			p.out(downOf(r.Intn(nodes)))
			me, k, at, epoch := someNumber(r), someNumber(r), api.Path{Depth: someNumber(r), Bits: someNumber(r)}, someNumber(r)
			right := pathIs(k, at) && nodeIs(me) && 1 <= epoch && epoch <= lastEpoch
			if s, e := seat.Found(k, me, at, epoch); (e == api.OK) != right || (s != nil) != right || !right && e != api.ErrArg {
				t.Fatalf("Found(%d, %d, %v, %d): %d", k, me, at, epoch, e)
			}
		}
	}
}

// P8: the same acts have the same answers.
func TestAgain(t *testing.T) {
	for seed := range 40 {
		x, y := newPlay(t, int64(seed), map[string]int{}), newPlay(t, int64(seed), map[string]int{})
		for range 120 {
			x.act()
			y.act()
		}
		if len(x.pairs) != len(y.pairs) || !slices.EqualFunc(x.notes, y.notes, sameNote) || !alike(x.seen, y.seen) {
			t.Fatalf("%d: the same acts made %d and %d seats", seed, len(x.pairs), len(y.pairs))
		}
		for i, p := range x.pairs {
			tells(t, y.pairs[i].s, p.m)
		}
	}
}
