package seat_test

import (
	"slices"
	"strings"
	"testing"

	"glebe/api"
	"glebe/entry"
	"glebe/point"
	"glebe/seat"
	"glebe/shelf"
)

// pair: a seat and its model. Each call is made to both, and what comes of it is held against what the words tell.
type pair struct {
	t *testing.T
	s *seat.Seat
	m *plain
}

// with: the seat is to be seen as the model.
func with(t *testing.T, s *seat.Seat, m *plain) *pair {
	t.Helper()
	tells(t, s, m)
	return &pair{t, s, m}
}

// founded: Found answers a seat.
func founded(t *testing.T, k, me int, p api.Path, epoch int) *pair {
	t.Helper()
	s, e := seat.Found(k, me, p, epoch)
	if e != api.OK {
		t.Fatalf("Found(%d, %d, %v, %d): %d", k, me, p, epoch, e)
	}
	return with(t, s, blank(k, me, p, epoch, me))
}

// heired: Heir answers as the words tell; nil beside an error.
func heired(t *testing.T, k, me int, n seat.Note) (*pair, seat.Note, api.Errno) {
	t.Helper()
	m, answer, want := heirOf(k, me, n)
	in := handed(n)
	s, got, e := seat.Heir(k, me, in.note)
	in.stays(t, n)
	if e != want || (s == nil) != (want != api.OK) || !sameNote(got, answer) {
		t.Fatalf("Heir(%d, %d, %+v): %v, %+v, %d, want %+v, %d", k, me, n, s, got, e, answer, want)
	}
	if s == nil {
		return nil, got, e
	}
	return with(t, s, m), got, e
}

// stand: these are the seats in its place; where it is one of them, it is to be seen as what it has become.
func (p *pair) stand(l []*seat.Seat, want []*plain) []*pair {
	p.t.Helper()
	if len(l) != len(want) {
		p.t.Fatalf("%d seats in the place of %+v, want %d", len(l), p.m.view(), len(want))
	}
	var pairs []*pair
	for i, s := range l {
		q := with(p.t, s, want[i])
		if s == p.s {
			p.m = want[i]
			q = p
		}
		pairs = append(pairs, q)
	}
	return pairs
}

func (p *pair) propose(e entry.Entry) api.Errno {
	p.t.Helper()
	m, want := p.m.propose(e)
	in := handed(seat.Note{Pend: e})
	if got := p.s.Propose(in.note.Pend); got != want {
		p.t.Fatalf("%+v: Propose(%+v): %d, want %d", p.m.view(), e, got, want)
	}
	in.stays(p.t, seat.Note{Pend: e})
	p.m = m
	tells(p.t, p.s, p.m)
	return want
}

func (p *pair) release(node int) api.Errno {
	p.t.Helper()
	m, want := p.m.release(node)
	if got := p.s.Release(node); got != want {
		p.t.Fatalf("%+v: Release(%d): %d, want %d", p.m.view(), node, got, want)
	}
	p.m = m
	tells(p.t, p.s, p.m)
	return want
}

func (p *pair) hear(n seat.Note) ([]*pair, seat.Note, api.Errno) {
	p.t.Helper()
	models, answer, want := p.m.hear(n)
	in := handed(n)
	l, got, e := p.s.Hear(in.note)
	in.stays(p.t, n)
	if e != want || !sameNote(got, answer) {
		p.t.Fatalf("%+v: Hear(%+v): %+v, %d, want %+v, %d", p.m.view(), n, got, e, answer, want)
	}
	if e != api.OK && (len(l) != 1 || l[0] != p.s) {
		p.t.Fatalf("%+v: Hear(%+v) with error %d: %d seats", p.m.view(), n, e, len(l))
	}
	return p.stand(l, models), got, e
}

func (p *pair) settle(down seat.Down) ([]*pair, []seat.Done) {
	p.t.Helper()
	models, want := p.m.settle(down)
	l, done := p.s.Settle(down)
	if !slices.EqualFunc(done, want, sameDone) {
		p.t.Fatalf("%+v: Settle(%v) did %+v, want %+v", p.m.view(), down, done, want)
	}
	for _, d := range done {
		fill(d.Entry.Chain)
	}
	return p.stand(l, models), want
}

func (p *pair) turn() []*pair {
	p.t.Helper()
	return p.stand(p.s.Turn(), p.m.turn())
}

func (p *pair) out(down seat.Down) []seat.Note {
	p.t.Helper()
	want := p.m.sends(down)
	for range 2 {
		l := p.s.Out(down)
		if len(l) != len(want) {
			p.t.Fatalf("%+v: Out(%v) = %+v, want %+v", p.m.view(), down, l, want)
		}
		for i, n := range l {
			if !sameNote(n, want[i]) {
				p.t.Fatalf("%+v: Out(%v) tells %+v, want %+v", p.m.view(), down, n, want[i])
			}
			spoil(n)
		}
		tells(p.t, p.s, p.m)
	}
	return want
}

// mergedOf: Merge answers as the words tell; both stay.
func mergedOf(t *testing.T, a, b *pair) (*pair, api.Errno) {
	t.Helper()
	m, want := merged(a.m, b.m)
	s, e := seat.Merge(a.s, b.s)
	if e != want || (s == nil) != (want != api.OK) {
		t.Fatalf("Merge of %+v and %+v: %v, %d, want %d", a.m.view(), b.m.view(), s, e, want)
	}
	tells(t, a.s, a.m)
	tells(t, b.s, b.m)
	if s == nil {
		return nil, e
	}
	return with(t, s, m), e
}

// fill: a list and the room behind it.
func fill(l []int) {
	for i := range l[:cap(l)] {
		l[:cap(l)][i] = -99
	}
}

// spoil: all that the note's lists have, and the room behind them.
func spoil(n seat.Note) {
	fill(n.Chain)
	fill(n.Pend.Chain)
	for i := range n.State[:cap(n.State)] {
		n.State[:cap(n.State)][i] = 0x55
	}
}

// input: a note whose lists have room behind them, and copies of all that.
type input struct {
	note         seat.Note
	chain, heirs []int
	state        []byte
}

func roomy(l []int) []int { return append(slices.Clone(l), 77, 78, 79)[:len(l)] }

func whole(l []int) []int { return slices.Clone(l[:cap(l)]) }

func handed(n seat.Note) *input {
	n.Chain, n.Pend.Chain = roomy(n.Chain), roomy(n.Pend.Chain)
	n.State = append(slices.Clone(n.State), 1, 2, 3)[:len(n.State)]
	return &input{n, whole(n.Chain), whole(n.Pend.Chain), slices.Clone(n.State[:cap(n.State)])}
}

// stays: what was handed in is as it was, and so is the room behind it; from here on it is something else, which nobody should see.
func (in *input) stays(t *testing.T, n seat.Note) {
	t.Helper()
	room := slices.Equal(whole(in.note.Chain), in.chain) && slices.Equal(whole(in.note.Pend.Chain), in.heirs) && slices.Equal(in.note.State[:cap(in.note.State)], in.state)
	if !room || !sameNote(in.note, n) {
		t.Fatalf("%+v was handed in, and is %+v", n, in.note)
	}
	spoil(in.note)
}

// pathOf: of halves that are written as digits, as many as may be.
func pathOf(text string) api.Path {
	p := api.Path{Depth: len(text)}
	for i := range len(text) {
		p.Bits = 2*p.Bits + int(text[i]-'0')
	}
	return p
}

func cell(x, y int) api.Point { return api.Point{X: x, Y: y} }

func add(node int) entry.Entry { return entry.Entry{Kind: entry.Add, Node: node} }

func drop(node int) entry.Entry { return entry.Entry{Kind: entry.Drop, Node: node} }

// put: of a Key that the Seq tells, at that cell.
func put(at api.Point, client, seq int) entry.Entry {
	o := point.Op{Kind: point.Put, At: at, Key: "k" + strings.Repeat("x", seq%4), Value: "v", Client: client, Seq: seq}
	return entry.Entry{Kind: entry.Call, Op: o}
}

func downOf(l ...int) seat.Down {
	var d seat.Down
	for _, node := range l {
		d[node] = true
	}
	return d
}

const (
	theK     = 2
	theEpoch = 10
)

// zone: the lower half, of K 2: X 0 and 1. Its holder, in most tests, is 0.
func zone() api.Path { return pathOf("0") }

// splitOf, moveOf: what the seat may propose, if the node is one of its heirs.
func (p *pair) splitOf(node int) entry.Entry {
	return entry.Entry{Kind: entry.Split, Node: node, Epoch: p.m.epoch + step, By: p.m.me, Chain: slices.Clone(p.m.chain)}
}

func (p *pair) moveOf(node int) entry.Entry {
	e := p.splitOf(node)
	e.Kind = entry.Move
	return e
}

// from: a note that the seat may hear from the node, of its path and Epoch.
func (p *pair) from(node, kind, index int) seat.Note {
	return seat.Note{Kind: kind, From: node, To: p.m.me, Path: p.m.path, Epoch: p.m.epoch, Index: index}
}

// have: the node has a seat, with all that it can have.
func (p *pair) have(node int) {
	p.t.Helper()
	if _, _, e := p.hear(p.from(node, seat.Have, p.m.upto())); e != api.OK {
		p.t.Fatalf("Have of %d: %d", node, e)
	}
}

// does: the entry is proposed, all heirs have it, and it is done.
func (p *pair) does(e entry.Entry) point.Ans {
	p.t.Helper()
	if fault := p.propose(e); fault != api.OK {
		p.t.Fatalf("Propose(%+v): %d", e, fault)
	}
	for _, node := range p.m.chain {
		p.have(node)
	}
	_, done := p.settle(seat.Down{})
	if len(done) != 1 {
		p.t.Fatalf("%+v was not done", e)
	}
	return done[0].Ans
}

// holderAt: of that zone, Ready, with these heirs, all Synced, and nothing to be done.
func holderAt(t *testing.T, k int, z api.Path, me int, chain ...int) *pair {
	t.Helper()
	p := founded(t, k, me, z, theEpoch)
	p.settle(seat.Down{})
	for _, node := range chain {
		p.does(add(node))
		p.have(node)
	}
	return p
}

// holder: 0, of the zone.
func holder(t *testing.T, chain ...int) *pair {
	t.Helper()
	return holderAt(t, theK, zone(), 0, chain...)
}

// shelfBytes: of a shelf of the zone, to which so many calls were applied, one a Seq.
func shelfBytes(k int, z api.Path, calls int) []byte {
	x, _ := shelf.New(k, z)
	at, _ := corner(k, z)
	for i := range calls {
		x.Apply(put(at, 0, i+1).Op)
	}
	return x.Put()
}

// corner: the zone's least cell.
func corner(k int, z api.Path) (api.Point, bool) {
	var at api.Point
	for i := range z.Depth {
		half := z.Bits >> (z.Depth - 1 - i) & 1
		size := half << (k - 1 - i/2)
		if i%2 == 0 {
			at.X += size
		} else {
			at.Y += size
		}
	}
	return at, pathIs(k, z)
}

// sync: from 0, which holds the zone, to me, with two calls done.
func sync(me int, pend entry.Entry, chain ...int) seat.Note {
	return seat.Note{
		Kind: seat.Sync, To: me, Path: zone(), Epoch: theEpoch, Index: 7,
		Chain: chain, Pend: pend, State: shelfBytes(theK, zone(), 2),
	}
}

// heir: of the zone that 0 holds.
func heir(t *testing.T, me int, pend entry.Entry, chain ...int) *pair {
	t.Helper()
	p, _, e := heired(t, theK, me, sync(me, pend, chain...))
	if e != api.OK {
		t.Fatalf("Heir: %d", e)
	}
	return p
}

// taker: an heir that has taken over from 0 and all that stood ahead, with nobody Synced.
func taker(t *testing.T, me int, pend entry.Entry, chain ...int) *pair {
	t.Helper()
	p := heir(t, me, pend, chain...)
	p.settle(downOf(append([]int{0}, chain[:slices.Index(chain, me)]...)...))
	if !p.s.Own() {
		t.Fatalf("%d has not taken over", me)
	}
	return p
}

// refuses: hearing the note is that error.
func (p *pair) refuses(n seat.Note, want api.Errno) {
	p.t.Helper()
	if _, _, e := p.hear(n); e != want {
		p.t.Errorf("%+v: Hear(%+v): %d, want %d", p.m.view(), n, e, want)
	}
}

// answers: hearing the note answers that one, and it goes on to stand alone.
func (p *pair) answers(n, want seat.Note) {
	p.t.Helper()
	l, got, e := p.hear(n)
	if e != api.OK || len(l) != 1 || !sameNote(got, want) {
		p.t.Errorf("%+v: Hear(%+v): %+v, %d, want %+v", p.m.view(), n, got, e, want)
	}
}
