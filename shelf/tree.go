package shelf

import (
	"slices"

	"glebe/api"
	"glebe/point"
	"glebe/quad"
	"glebe/wire"
)

// mostTaken: so many records are taken from bytes, no more; as many as a zone can get where zones are merged.
const mostTaken = api.MaxRecords * api.MaxNodes

// tree: a zone's records, and the k that a tree of them does not tell.
// That tree has a name here, since what is embedded hands out all its calls, and a Shelf should have none that goes past its table.
type tree struct {
	k    int
	recs *quad.Tree
}

// newTree: of no records.
func newTree(k int, zone api.Path) (tree, api.Errno) {
	recs, e := quad.New(k, zone)
	return tree{k: k, recs: recs}, e
}

// has: is the cell in the zone? A tree of the zone takes a record just of such a cell.
func (t tree) has(at api.Point) bool {
	_, e := quad.New(t.k, t.recs.Zone(), point.Rec{At: at, Key: "-", Ver: 1})
	return e == api.OK
}

// found: what there is of that cell and Key, as an answer.
func (t tree) found(at api.Point, key string) point.Ans {
	r, there := t.recs.Get(at, key)
	return point.Ans{Found: there, Value: r.Value, Ver: r.Ver}
}

// put: what a Put does, and its answer, where that was found.
func (t tree) put(o point.Op, was point.Ans) point.Ans {
	next := point.Rec{At: o.At, Key: o.Key, Value: o.Value, Ver: was.Ver + 1}
	crowded := !was.Found && t.recs.Len() >= api.MaxRecords
	if crowded || next.Ver > point.MaxSeq {
		return point.Ans{E: api.ErrFull}
	}
	t.recs.Put(next)
	if was.Found {
		was.Ver = next.Ver
	}
	return was
}

// do: what a call does, and its answer: Del and Get are told what there was.
func (t tree) do(o point.Op) point.Ans {
	was := t.found(o.At, o.Key)
	switch o.Kind {
	case point.Put:
		return t.put(o, was)
	case point.Del:
		t.recs.Del(o.At, o.Key)
		fallthrough
	default:
		return was
	}
}

// bytes: how many records, and each. Just what may be is in the tree, so nothing is refused.
func (t tree) bytes() []byte {
	b, _ := wire.Num(t.recs.Len())
	for _, r := range t.recs.All() {
		rec, _ := point.PutRec(r)
		b = append(b, rec...)
	}
	return b
}

// take: the records that stand next; whether something was wrong with them, the reader tells.
func (t tree) take(r *wire.Reader) {
	var last point.Rec // the zero one stands ahead of all that may be
	for range r.Upto(mostTaken) {
		next := point.TakeRec(r)
		_, e := t.recs.Put(next)
		if e != api.OK || point.Compare(last, next) >= 0 {
			r.Fail(api.ErrForm)
			return
		}
		last = next
	}
}

// same: are they the same records, of one zone and one k?
func (t tree) same(u tree) bool {
	return t.k == u.k && t.recs.Zone() == u.recs.Zone() && slices.Equal(t.recs.All(), u.recs.All())
}
