package message

import (
	"glebe/api"
	"glebe/entry"
	"glebe/point"
	"glebe/seat"
	"glebe/window"
)

// visitor: goes through what a message has. One that writes takes what it is shown; one that reads puts it there.
type visitor interface {
	num(n *int)
	call(o *point.Op)
	answer(a *point.Ans)
	record(r *point.Rec)
	chain(l *[]int)
	entry(e *entry.Entry)
	state(b *[]byte)
	must(so bool) // else what is read is no message
}

// visit: what a message of its Kind has, in the order of its bytes.
func visit(v visitor, m *Msg) {
	node(v, &m.From)
	node(v, &m.To)
	v.must(m.From != m.To)
	switch m.Kind {
	case Beat:
		list(v, &m.Zones, api.MaxZones, zone)
	case Ask:
		v.call(&m.Op)
		hops(v, m)
	case Answer:
		seq(v, m)
		v.answer(&m.Ans)
	case Probe:
		seq(v, m)
		node(v, &m.Op.Client)
		rect(v, &m.Rect)
		hops(v, m)
	case Part:
		seq(v, m)
		halves(v, &m.Path)
		list(v, &m.Recs, maxRecs, visitor.record)
		v.must(rising(m.Recs))
	case Join:
		node(v, &m.Op.Client)
		cell(v, &m.At)
		hops(v, m)
	case Refuse:
		v.answer(&m.Ans)
		v.must(m.Ans.E != api.OK && m.Ans == point.Ans{E: m.Ans.E})
	case Seat:
		note(v, m)
	default:
		v.must(false)
	}
}

// number: one from least to most.
func number(v visitor, n *int, least, most int) {
	v.num(n)
	v.must(within(*n, least, most))
}

func node(v visitor, n *int) { number(v, n, 0, api.MaxNodes-1) }

func hops(v visitor, m *Msg) { number(v, &m.Hops, 0, MaxHops) }

func seq(v visitor, m *Msg) { number(v, &m.Seq, 1, point.MaxSeq) }

func cell(v visitor, c *api.Point) {
	number(v, &c.X, 0, maxSide-1)
	number(v, &c.Y, 0, maxSide-1)
}

// rect: it may be of a torus that this layer does not know, so just its numbers are bound.
func rect(v visitor, r *window.Rect) {
	for _, n := range []*int{&r.X, &r.Y, &r.W, &r.H} {
		number(v, n, 0, maxSide)
	}
}

func halves(v visitor, p *api.Path) {
	v.num(&p.Depth)
	v.num(&p.Bits)
	v.must(rightPath(*p))
}

// list: how many, and each. Of too many none is looked at.
func list[T any](v visitor, l *[]T, most int, each func(visitor, *T)) {
	n := len(*l)
	number(v, &n, 0, most)
	if n > most {
		return
	}
	if n > len(*l) { // they are still to be read
		*l = make([]T, n)
	}
	for i := range *l {
		each(v, &(*l)[i])
	}
}

func zone(v visitor, z *Zone) {
	halves(v, &z.Path)
	v.num(&z.Epoch)
	v.num(&z.Holder)
	v.chain(&z.Chain)
	v.must(RightZone(*z))
}

// rising: do they stand by Compare, each once?
func rising(l []point.Rec) bool {
	for i := 1; i < len(l); i++ {
		if point.Compare(l[i-1], l[i]) >= 0 {
			return false
		}
	}
	return true
}

// note: who sends it to whom is not told again, nor who holds the zone, which is who sends a Sync.
func note(v visitor, m *Msg) {
	n := &m.Note
	n.From, n.To = m.From, m.To
	v.num(&n.Kind)
	halves(v, &n.Path)
	v.num(&n.Epoch)
	v.num(&n.Index)
	switch n.Kind {
	case seat.Sync:
		n.Holder = n.From
		v.chain(&n.Chain)
		perhaps(v, &n.Pend)
		v.state(&n.State)
	case seat.Append:
		v.entry(&n.Pend)
	}
	v.must(seat.RightNote(*n))
}

// perhaps: 0; or 1, and the entry, if there is one.
func perhaps(v visitor, e *entry.Entry) {
	some := 0
	if !entry.Same(*e, entry.Entry{}) {
		some = 1
	}
	number(v, &some, 0, 1)
	if some == 1 {
		v.entry(e)
	}
}
