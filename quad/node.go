package quad

import (
	"iter"
	"slices"

	"glebe/api"
	"glebe/point"
	"glebe/window"
)

// mostTogether: so many records are in one node of more than one cell, no more.
const mostTogether = 4

// node: a rectangle with its records: those of a leaf are its own, by Compare; those of another one lie in its quarters.
type node struct {
	area     window.Rect
	size     int // how many records, its quarters' among them
	recs     []point.Rec
	quarters [4]*node // some are nil where one cell can't be halved, all of a leaf
}

func (n *node) isLeaf() bool { return n.quarters == [4]*node{} }

// crowded: should it have quarters?
func (n *node) crowded() bool { return n.size > mostTogether && window.Area(n.area) > 1 }

// find: the place in a leaf of the record of that cell and Key, and whether it is there. Compare asks for no more of a record.
func (n *node) find(at api.Point, key string) (int, bool) {
	return slices.BinarySearchFunc(n.recs, point.Rec{At: at, Key: key}, point.Compare)
}

// quarterOf: of a node that has some, and the cell in its rectangle, so that there is one.
func (n *node) quarterOf(at api.Point) *node {
	has := func(q *node) bool { return q != nil && window.Has(q.area, at) }
	return n.quarters[slices.IndexFunc(n.quarters[:], has)]
}

// leafOf: the leaf that has the cell.
func (n *node) leafOf(at api.Point) *node {
	for !n.isLeaf() {
		n = n.quarterOf(at)
	}
	return n
}

// halved: a span's two halves; of a single number it and nothing.
func halved(size int) [2]int { return [2]int{size - size/2, size / 2} }

// part: a leaf gets quarters, and they its records.
func (n *node) part() {
	wide, high := halved(n.area.W), halved(n.area.H)
	for i := range n.quarters {
		x, y := i%2, i/2
		q := window.Rect{X: n.area.X + x*wide[0], Y: n.area.Y + y*high[0], W: wide[x], H: high[y]}
		if window.Area(q) > 0 {
			n.quarters[i] = &node{area: q}
		}
	}
	for _, r := range n.recs {
		n.quarterOf(r.At).put(r)
	}
	n.recs = nil
}

// gather: it becomes a leaf again.
func (n *node) gather() {
	n.recs = n.sorted(n.area)
	n.quarters = [4]*node{}
}

// put: the record is there; was there one?
func (n *node) put(r point.Rec) bool {
	if !n.isLeaf() {
		there := n.quarterOf(r.At).put(r)
		if !there {
			n.size++
		}
		return there
	}
	i, there := n.find(r.At, r.Key)
	if there {
		n.recs[i] = r
		return true
	}
	n.recs = slices.Insert(n.recs, i, r)
	n.size++
	if n.crowded() {
		n.part()
	}
	return false
}

// del: the record is gone; was there one?
func (n *node) del(at api.Point, key string) bool {
	if !n.isLeaf() {
		there := n.quarterOf(at).del(at, key)
		if there {
			n.size--
		}
		if !n.crowded() {
			n.gather()
		}
		return there
	}
	i, there := n.find(at, key)
	if there {
		n.recs = slices.Delete(n.recs, i, i+1)
		n.size--
	}
	return there
}

// nodes: this one and those below it whose rectangles meet r, each behind how many steps it is below.
func (n *node) nodes(r window.Rect) iter.Seq2[int, *node] {
	return func(yield func(int, *node) bool) {
		if window.Area(window.Meet(n.area, r)) == 0 || !yield(0, n) {
			return
		}
		for _, q := range n.quarters {
			if q == nil {
				continue
			}
			for below, m := range q.nodes(r) {
				if !yield(below+1, m) {
					return
				}
			}
		}
	}
}

// inside: the records whose cells are in the rectangle, leaf by leaf.
func (n *node) inside(r window.Rect) iter.Seq[point.Rec] {
	return func(yield func(point.Rec) bool) {
		for _, m := range n.nodes(r) {
			for _, rec := range m.recs {
				if window.Has(r, rec.At) && !yield(rec) {
					return
				}
			}
		}
	}
}

// sorted: likewise, but by Compare: leaves don't lie row by row.
func (n *node) sorted(r window.Rect) []point.Rec {
	return slices.SortedFunc(n.inside(r), point.Compare)
}
