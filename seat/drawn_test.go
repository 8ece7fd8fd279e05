package seat_test

import (
	"math/rand"
	"slices"
	"strconv"
	"testing"

	"glebe/api"
	"glebe/entry"
	"glebe/point"
	"glebe/seat"
)

// play: seats of a zone and of what comes of it, each beside its model, and all notes that they sent, of which any may come at any time, as often as it likes.
type play struct {
	t     *testing.T
	r     *rand.Rand
	k     int
	pairs []*pair
	notes []seat.Note
	down  seat.Down
	seq   int
	seen  map[string]int
}

func newPlay(t *testing.T, seed int64, seen map[string]int) *play {
	x := &play{t: t, r: rand.New(rand.NewSource(seed)), seen: seen}
	x.k = 1 + x.r.Intn(3)
	depth := x.r.Intn(2*x.k + 1)
	epoch := 1 + x.r.Intn(100)
	if x.r.Intn(10) == 0 {
		epoch = lastEpoch - x.r.Intn(2*step)
	}
	p := founded(t, x.k, x.r.Intn(nodes), api.Path{Depth: depth, Bits: x.r.Intn(1 << depth)}, epoch)
	x.pairs = append(x.pairs, p)
	if depth > 0 && x.chance(3) {
		sibling := api.Path{Depth: depth, Bits: p.m.path.Bits ^ 1}
		x.pairs = append(x.pairs, founded(t, x.k, p.m.me, sibling, min(lastEpoch, epoch+x.r.Intn(3))))
	}
	return x
}

func (x *play) saw(what string, l ...int) {
	for _, n := range l {
		what += " " + strconv.Itoa(n)
	}
	x.seen[what]++
}

func (x *play) chance(of int) bool { return x.r.Intn(of) == 0 }

func (x *play) pair() *pair { return x.pairs[x.r.Intn(len(x.pairs))] }

// replace: these stand in its place.
func (x *play) replace(p *pair, l []*pair) {
	i := slices.Index(x.pairs, p)
	x.pairs = slices.Replace(x.pairs, i, i+1, l...)
	for len(x.pairs) > 12 {
		i := x.r.Intn(len(x.pairs))
		x.pairs = slices.Delete(x.pairs, i, i+1)
	}
}

func (x *play) remember(l ...seat.Note) {
	for _, n := range l {
		if n.Kind != 0 {
			x.notes = append(x.notes, n)
		}
	}
	for len(x.notes) > 60 {
		i := x.r.Intn(len(x.notes))
		x.notes = slices.Delete(x.notes, i, i+1)
	}
}

// at: a cell, most often one of the zone.
func (x *play) at(z api.Path) api.Point {
	at, _ := corner(x.k, z)
	if x.chance(8) {
		at = cell(x.r.Intn(1<<x.k), x.r.Intn(1<<x.k))
	}
	return at
}

func (x *play) call(z api.Path) entry.Entry {
	if !x.chance(6) {
		x.seq++
	}
	o := point.Op{Kind: 1 + x.r.Intn(3), At: x.at(z), Key: string(rune('a' + x.r.Intn(3))), Client: x.r.Intn(3), Seq: x.seq}
	if o.Kind == point.Put {
		o.Value = string(rune('A' + x.r.Intn(26)))
	}
	return callOf(o)
}

// entry: of any Kind, most often such as the seat may propose.
func (x *play) entry(p *pair) entry.Entry {
	node := x.r.Intn(nodes)
	if len(p.m.chain) > 0 && !x.chance(3) {
		node = p.m.chain[x.r.Intn(len(p.m.chain))]
	}
	switch x.r.Intn(10) {
	case 0, 1:
		return x.call(p.m.path)
	case 2, 3, 4:
		return add(x.r.Intn(nodes))
	case 5:
		return drop(node)
	case 6:
		return x.spoilt(p.splitOf(node))
	case 7:
		return x.spoilt(p.moveOf(node))
	}
	return x.call(p.m.path)
}

// spoilt: at times another one, that may not be, or may not be here.
func (x *play) spoilt(e entry.Entry) entry.Entry {
	if !x.chance(4) {
		return e
	}
	switch x.r.Intn(6) {
	case 0:
		e.Kind = x.r.Intn(8) - 1
	case 1:
		e.Node = x.r.Intn(nodes+2) - 1
	case 2:
		e.Epoch += x.r.Intn(3) - 1
	case 3:
		e.By = x.r.Intn(nodes)
	case 4:
		e.Chain = append(e.Chain, x.r.Intn(nodes))
	default:
		e.Chain = e.Chain[:x.r.Intn(len(e.Chain)+1)]
	}
	return e
}

// changed: the note with one of its fields another one, whether it may be then or not.
func (x *play) changed(n seat.Note) seat.Note {
	n.Chain = slices.Clone(n.Chain)
	switch x.r.Intn(12) {
	case 0:
		n.Kind = x.r.Intn(8)
	case 1:
		n.From = x.r.Intn(nodes)
		n.Holder = x.r.Intn(2) * n.From
	case 2:
		n.To = x.r.Intn(nodes)
	case 3:
		n.Path = x.pair().m.path
	case 4, 5:
		n.Epoch += x.r.Intn(5) - 2
	case 6, 7:
		n.Index += x.r.Intn(5) - 2
	case 8:
		n.Chain = append(n.Chain, x.r.Intn(nodes))
	case 9:
		n.Pend = x.entry(x.pair())
	case 10:
		n.Pend = entry.Entry{}
	default:
		n.State = n.State[:x.r.Intn(len(n.State)+1)]
	}
	return n
}

// forged: a note that nobody sent, of what the seat could hear.
func (x *play) forged(p *pair) seat.Note {
	n := p.from(x.r.Intn(nodes), 1+x.r.Intn(6), p.m.index+x.r.Intn(4)-1)
	if len(p.m.pend) > 0 && x.chance(2) {
		n.Epoch = max(1, p.m.pend[0].Epoch)
	}
	switch n.Kind {
	case seat.Sync:
		n.Epoch += x.r.Intn(3) - 1
		n.Holder = n.From
		n.Chain = slices.DeleteFunc(x.r.Perm(nodes)[:4], func(node int) bool { return node == n.From || node == n.To })
		n.Chain = append(n.Chain, n.To)
		n.State = x.pair().s.Shelf().Put()
		fallthrough
	case seat.Append:
		n.Pend = x.entry(p)
	}
	return n
}

// hears: a note comes, most often to a seat that may hear it.
func (x *play) hears() {
	x.t.Helper()
	p := x.pair()
	var n seat.Note
	if len(x.notes) == 0 || x.chance(6) {
		n = x.forged(p)
	} else {
		n = x.notes[x.r.Intn(len(x.notes))]
	}
	if x.chance(6) {
		n = x.changed(n)
	}
	its := slices.IndexFunc(x.pairs, func(p *pair) bool { return p.m.me == n.To && p.m.path == n.Path })
	if its >= 0 && !x.chance(10) {
		p = x.pairs[its]
	}
	if its < 0 && !x.chance(6) {
		x.lets(n)
		return
	}
	l, answer, e := p.hear(n)
	x.saw("hear", min(n.Kind, 7), int(e))
	x.remember(answer)
	x.replace(p, l)
	if len(x.pairs) == 0 {
		x.pairs = append(x.pairs, p)
	}
}

func (x *play) lets(n seat.Note) {
	x.t.Helper()
	p, answer, e := heired(x.t, x.k, n.To, n)
	x.saw("heir", int(e))
	if e == api.OK {
		x.remember(answer)
		x.pairs = append(x.pairs, p)
		x.replace(p, []*pair{p})
	}
}

// downs: those that have stopped, or some of them, or any.
func (x *play) downs() seat.Down {
	d := x.down
	for node := range d {
		if x.chance(5) {
			d[node] = false
		}
		if x.chance(60) {
			d[node] = true
		}
	}
	return d
}

func (x *play) settles() {
	x.t.Helper()
	p := x.pair()
	was := p.m.own()
	l, done := p.settle(x.downs())
	if len(l) == 1 && !was && l[0].m.own() {
		x.saw("taken over")
	}
	for _, d := range done {
		x.saw("done", d.Entry.Kind, len(l))
	}
	x.replace(p, l)
}

func (x *play) asks() {
	x.t.Helper()
	p := x.pair()
	if x.chance(5) {
		node := x.r.Intn(nodes+2) - 1
		if i := len(p.m.chain); i > 0 && !x.chance(4) {
			node = p.m.chain[i-1]
		}
		x.saw("release", int(p.release(node)))
		return
	}
	e := x.entry(p)
	x.saw("propose", min(max(e.Kind, 0), 6), int(p.propose(e)))
}

func (x *play) merges() {
	x.t.Helper()
	a, b := x.pair(), x.pair()
	for _, p := range x.pairs {
		if p.m.path.Depth == a.m.path.Depth && p.m.path.Bits^1 == a.m.path.Bits && p.m.me == a.m.me {
			b = p
		}
	}
	m, e := mergedOf(x.t, a, b)
	x.saw("merge", int(e))
	if e == api.OK {
		x.replace(a, []*pair{m})
	}
}

func (x *play) turns() {
	x.t.Helper()
	p := x.pair()
	l := p.turn()
	x.saw("turn", len(l))
	x.replace(p, l)
}

func (x *play) sends() {
	x.t.Helper()
	l := x.pair().out(x.downs())
	for _, n := range l {
		x.saw("out", n.Kind)
	}
	x.remember(l...)
}

func (x *play) act() {
	x.t.Helper()
	switch n := x.r.Intn(100); {
	case n < 45:
		x.hears()
	case n < 65:
		x.settles()
	case n < 80:
		x.asks()
	case n < 94:
		x.sends()
	case n < 97:
		x.merges()
	case n < 98:
		x.turns()
	default:
		x.down[x.r.Intn(nodes)] = !x.chance(3)
	}
}

// asked: what drawn acts must have come to, so that what they are held against is not nothing.
func asked() []string {
	l := []string{"heir 0", "heir 1", "heir 21", "taken over", "turn 1", "turn 2", "merge 0", "merge 1", "merge 31", "merge 41"}
	l = append(l, "release 0", "release 1", "release 3", "release 41", "done 1 1", "done 2 1", "done 3 1", "done 4 2", "done 5 1")
	l = append(l, "out 1", "out 2", "out 4", "out 6", "hear 1 21", "hear 2 1", "hear 5 1", "propose 1 44", "propose 2 4", "propose 3 3", "propose 4 30")
	for kind := 1; kind <= 6; kind++ {
		k := strconv.Itoa(kind)
		l = append(l, "hear "+k+" 0", "hear "+k+" 1", "hear "+k+" 44")
		if kind < 6 {
			l = append(l, "propose "+k+" 0", "propose "+k+" 1", "propose "+k+" 41")
		}
	}
	return l
}

// P1201 to P1207: drawn acts on seats of a zone, each held against the model.
func TestDrawnActs(t *testing.T) {
	seen := map[string]int{}
	for seed := range 800 {
		x := newPlay(t, int64(seed), seen)
		for range 250 {
			x.act()
		}
	}
	for _, what := range slices.Compact(slices.Sorted(slices.Values(asked()))) {
		if seen[what] < 5 {
			t.Errorf("%q was seen %d times", what, seen[what])
		}
	}
}
