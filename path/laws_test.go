package path_test

import (
	"math"
	"slices"
	"testing"

	"glebe/api"
	"glebe/path"
	"glebe/torus"
)

// children: of a path that has some.
func children(t *testing.T, p api.Path) [2]api.Path {
	t.Helper()
	var both [2]api.Path
	for bit := range both {
		c, e := path.Child(p, bit)
		if e != api.OK {
			t.Fatalf("Child(%v, %d): %d", p, bit, e)
		}
		both[bit] = c
	}
	return both
}

// P305: children are siblings and below their parent, which is the path.
func TestChildren(t *testing.T) {
	for _, w := range someWords() {
		p := pathOf(w)
		if p.Depth == 2*api.MaxK {
			continue
		}
		both := children(t, p)
		for bit, c := range both {
			if s, ok := path.Sibling(c); !ok || s != both[1-bit] {
				t.Errorf("Sibling(%v) = %v, %v", c, s, ok)
			}
			if q, ok := path.Parent(c); !ok || q != p {
				t.Errorf("Parent(%v) = %v, %v", c, q, ok)
			}
			if !path.Above(p, c) || path.Above(c, p) || path.Last(c) != bit || path.Bit(c, p.Depth) != bit {
				t.Errorf("%v and its child %v: Above %v, %v, Last %d", p, c, path.Above(p, c), path.Above(c, p), path.Last(c))
			}
		}
		if path.Meet(both[0], both[1]) || path.Common(both[0], both[1]) != p {
			t.Errorf("children of %v: Meet %v, Common %v", p, path.Meet(both[0], both[1]), path.Common(both[0], both[1]))
		}
	}
}

// unlike: two paths that do not meet lie below unlike children of their Common.
func unlike(t *testing.T, p, q api.Path) {
	t.Helper()
	if path.Meet(p, q) {
		return
	}
	both := children(t, path.Common(p, q))
	if path.Above(both[0], p) == path.Above(both[1], p) || path.Above(both[0], q) == path.Above(both[1], q) || path.Above(both[0], p) == path.Above(both[0], q) {
		t.Errorf("%v and %v, which do not meet: their Common is %v", p, q, path.Common(p, q))
	}
}

// P305: of paths that do not meet.
func TestBelowUnlikeChildren(t *testing.T) {
	short := paths(allWords(5))
	for _, p := range short {
		for _, q := range short {
			unlike(t, p, q)
		}
	}
	for _, w := range someWords() {
		for _, v := range family(w) {
			unlike(t, pathOf(v), pathOf(w))
			unlike(t, pathOf(w), pathOf(v))
		}
	}
}

// cellsOf: by Corner.
func cellsOf(x torus.Torus, p api.Path) map[api.Point]bool {
	c, w, h := path.Corner(x, p)
	l := map[api.Point]bool{}
	for i := range w {
		for j := range h {
			l[api.Point{X: c.X + i, Y: c.Y + j}] = true
		}
	}
	return l
}

// P306: the zone has the cell just if At, of that depth, is the path.
func TestZoneHasCell(t *testing.T) {
	for k := 1; k <= 4; k++ {
		x, l := torus.Torus{K: k}, allCells(k)
		for _, w := range allWords(2 * k) {
			p := pathOf(w)
			zone := cellsOf(x, p)
			for _, c := range l {
				if q, e := path.At(x, c, p.Depth); e != api.OK || (q == p) != zone[c] {
					t.Fatalf("K %d: At(%v, %d) = %v, %d; the zone of %v has it: %v", k, c, p.Depth, q, e, p, zone[c])
				}
			}
		}
	}
}

// P306: of great toruses, at the zone's corners, and beside them.
func TestZoneHasCellOfAnyK(t *testing.T) {
	for k := 1; k <= api.MaxK; k++ {
		x := torus.Torus{K: k}
		for _, word := range someWords() {
			p := pathOf(word)
			if !path.Right(k, p) {
				continue
			}
			c, w, h := path.Corner(x, p)
			for _, i := range []int{-1, 0, w / 2, w - 1, w} {
				for _, j := range []int{-1, 0, h / 2, h - 1, h} {
					in := 0 <= i && i < w && 0 <= j && j < h
					near := api.Point{X: c.X + i, Y: c.Y + j}
					if q, e := path.At(x, near, p.Depth); x.Has(near) && (e != api.OK || (q == p) != in) {
						t.Fatalf("K %d: At(%v, %d) = %v, %d; the zone of %v has it: %v", k, near, p.Depth, q, e, p, in)
					}
				}
			}
		}
	}
}

// P306: the zones of two paths have a cell together just if they meet.
func TestZonesMeet(t *testing.T) {
	for k := 1; k <= 3; k++ {
		x, l := torus.Torus{K: k}, paths(allWords(2*k))
		for _, p := range l {
			zone := cellsOf(x, p)
			for _, q := range l {
				some := false
				for c := range cellsOf(x, q) {
					some = some || zone[c]
				}
				if path.Meet(p, q) != some {
					t.Fatalf("K %d: Meet(%v, %v) = %v; a cell together: %v", k, p, q, path.Meet(p, q), some)
				}
			}
		}
	}
}

// ordered: of three paths that stand so.
func ordered(t *testing.T, p, q, r api.Path) {
	t.Helper()
	a, b, c := path.Compare(p, q), path.Compare(q, r), path.Compare(p, r)
	if a <= 0 && b <= 0 && (c > 0 || c == 0 && (a < 0 || b < 0)) {
		t.Fatalf("%v, %v, %v: %d, %d, and %d", p, q, r, a, b, c)
	}
	if path.Compare(q, p) != -a || (a == 0) != (p == q) {
		t.Fatalf("%v and %v: %d there, %d back", p, q, a, path.Compare(q, p))
	}
}

// P307: Compare is an order.
func TestOrder(t *testing.T) {
	l := append(paths(allWords(3)), edgePaths()...)
	for _, p := range l {
		for _, q := range l {
			for _, r := range l {
				ordered(t, p, q, r)
			}
		}
	}
}

// P307: what is below a path stands behind it, without others between.
func TestBelowStandsBehind(t *testing.T) {
	for _, l := range [][]api.Path{paths(allWords(6)), paths(someWords()), paths(append(family(slices.Repeat([]int{0, 1, 1}, 10)), allWords(5)...))} {
		for i, p := range l {
			below := 0
			for _, q := range l {
				if path.Above(p, q) {
					below++
				}
			}
			for _, q := range l[i : i+below] {
				if !path.Above(p, q) {
					t.Fatalf("%v stands among the %d paths from %v on", q, below, p)
				}
			}
		}
	}
}

// P308: there and back.
func TestThereAndBack(t *testing.T) {
	for _, p := range append(paths(someWords()), edgePaths()...) {
		if q, ok := path.Parse(path.Print(p)); !ok || q != p {
			t.Errorf("%v is printed %q, and read %v, %v", p, path.Print(p), q, ok)
		}
	}
	for _, w := range allWords(8) {
		p, ok := path.Parse(textOf(w))
		if s := path.Print(p); !ok || s != textOf(w) {
			t.Errorf("%q is read %v, %v, and printed %q", textOf(w), p, ok, s)
		}
	}
}

// said: what all calls answer.
type said struct {
	right, parent, sibling, above, meet, parsed bool
	up, beside, child, common, at, back         api.Path
	childErr, atErr                             api.Errno
	bit, last, compare, w, h                    int
	corner                                      api.Point
	text                                        string
}

// ask: of one torus, two paths and a number more.
func ask(k int, p, q api.Path, n int) said {
	var s said
	x := torus.Torus{K: k}
	s.right = path.Right(k, p)
	s.child, s.childErr = path.Child(p, n)
	s.up, s.parent = path.Parent(p)
	s.beside, s.sibling = path.Sibling(p)
	s.bit, s.last = path.Bit(p, n), path.Last(p)
	s.above, s.meet = path.Above(p, q), path.Meet(p, q)
	s.common, s.compare = path.Common(p, q), path.Compare(p, q)
	s.at, s.atErr = path.At(x, api.Point{X: n, Y: q.Bits}, p.Depth)
	s.corner, s.w, s.h = path.Corner(x, p)
	s.text = path.Print(p)
	s.back, s.parsed = path.Parse(s.text)
	return s
}

// P7, P8, P301: there is an answer, whatever is asked, and the same one again, whatever was asked between.
func TestAnythingTwice(t *testing.T) {
	type asked struct {
		k, n int
		p, q api.Path
	}
	first := map[asked]said{}
	depths := []int{math.MinInt, -1, 0, 1, 31, 32, 33, 63, 64, math.MaxInt}
	for range 2 {
		for _, k := range []int{math.MinInt, -1, 0, 1, 9, api.MaxK, api.MaxK + 1, 64, math.MaxInt} {
			for _, n := range []int{math.MinInt, -1, 0, 1, 2, 32, 1 << 32, math.MaxInt} {
				for _, d := range depths {
					for _, b := range []int{math.MinInt, -1, 0, 1, 2, 1<<32 - 1, 1 << 32, math.MaxInt} {
						a := asked{k, n, api.Path{Depth: d, Bits: b}, api.Path{Depth: 32 - n, Bits: b / 2}}
						got := ask(a.k, a.p, a.q, a.n)
						if was, ok := first[a]; ok && was != got {
							t.Fatalf("%v: %v, then %v", a, was, got)
						}
						if got.parsed != path.Right(api.MaxK, a.p) {
							t.Fatalf("%v is printed %q", a.p, got.text)
						}
						first[a] = got
					}
				}
			}
		}
	}
}
