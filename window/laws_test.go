package window_test

import (
	"math"
	"slices"
	"testing"

	"glebe/api"
	"glebe/path"
	"glebe/torus"
	"glebe/window"
)

// areas: of all, together.
func areas(l []window.Rect) int {
	sum := 0
	for _, r := range l {
		sum += window.Area(r)
	}
	return sum
}

// edgeWindows: of k, whose numbers are where something changes.
func edgeWindows(k int) []window.Rect {
	n := side(k)
	places, sizes := []int{0, n / 2, n - 1}, []int{0, 1, n / 2, n - 1, n}
	return grid(places, sizes)
}

// P404: at most four rectangles, that may be and are not empty, no two of which have one cell; W times H in all.
func TestFourAtMost(t *testing.T) {
	for _, k := range someKs() {
		x := torus.Torus{K: k}
		l := edgeWindows(k)
		if k <= 3 {
			l = grid(upTo(0, side(k)-1), upTo(0, side(k)))
		}
		for _, w := range l {
			parts, e := window.Plain(x, w)
			if e != api.OK || len(parts) > 4 || areas(parts) != w.W*w.H {
				t.Fatalf("K %d: Plain(%v) = %v, %d", k, w, parts, e)
			}
			for i, r := range parts {
				if !window.Right(x, r) || r.W == 0 || r.H == 0 {
					t.Fatalf("K %d: Plain(%v) has %v", k, w, r)
				}
				for _, o := range parts[:i] {
					if window.Meet(o, r) != (window.Rect{}) {
						t.Fatalf("K %d: Plain(%v) has %v and %v", k, w, o, r)
					}
				}
			}
		}
	}
}

// P405: a cell of a is in just one of Meet and Less.
func TestParts(t *testing.T) {
	l := grid(upTo(0, 3), upTo(0, 3))
	for _, a := range l {
		for _, b := range l {
			parts := append(window.Less(a, b), window.Meet(a, b))
			if len(parts) > 5 || areas(parts) != window.Area(a) {
				t.Fatalf("%v and %v: %v", a, b, parts)
			}
			for _, c := range cellsOf(rect(0, 0, 7, 7)) {
				in := 0
				for _, r := range parts {
					if window.Has(r, c) {
						in++
					}
				}
				if window.Has(a, c) && in != 1 || !window.Has(a, c) && in != 0 {
					t.Fatalf("%v and %v: %v is in %d of %v", a, b, c, in, parts)
				}
			}
		}
	}
}

// P405: of great rectangles, up to 2^30 from the zero cell.
func TestPartsOfGreatOnes(t *testing.T) {
	l := grid([]int{0, 1, most/2 - 1, most / 2}, []int{0, 1, most/2 - 1, most / 2})
	for _, a := range l {
		for _, b := range l {
			if parts := append(window.Less(a, b), window.Meet(a, b)); areas(parts) != window.Area(a) {
				t.Fatalf("%v and %v: %v", a, b, parts)
			}
		}
	}
}

// cutAreas: of both children's zones, and of their parent's.
func cutAreas(t *testing.T, x torus.Torus, w window.Rect, p api.Path) {
	t.Helper()
	sum := 0
	for bit := range 2 {
		c, e := path.Child(p, bit)
		if e != api.OK {
			t.Fatalf("Child(%v, %d): %d", p, bit, e)
		}
		sum += areas(window.Cut(x, w, c))
	}
	if all := areas(window.Cut(x, w, p)); all != sum {
		t.Fatalf("K %d: Cut(%v, %v) has %d cells, those of the children %d", x.K, w, p, all, sum)
	}
}

// P406: Cut of both children's zones together, down to those of one cell.
func TestCutOfChildren(t *testing.T) {
	for k := 1; k <= 2; k++ {
		for _, w := range grid(upTo(0, side(k)-1), upTo(0, side(k))) {
			for _, p := range allPaths(2*k - 1) {
				cutAreas(t, torus.Torus{K: k}, w, p)
			}
		}
	}
	for _, k := range someKs() {
		for _, w := range edgeWindows(k) {
			for d := range 2 * k {
				cutAreas(t, torus.Torus{K: k}, w, api.Path{Depth: d})
				cutAreas(t, torus.Torus{K: k}, w, api.Path{Depth: d, Bits: 1<<d - 1})
				cutAreas(t, torus.Torus{K: k}, w, api.Path{Depth: d, Bits: (1 << d) * 2 / 3})
			}
		}
	}
}

// spoil: all that the answer has, and what is behind it.
func spoil(l []window.Rect) {
	for i := range l[:cap(l)] {
		l[:cap(l)][i] = rect(-1, -1, -1, -1)
	}
}

// P401: answers are apart.
func TestApart(t *testing.T) {
	x, w := torus.Torus{K: 3}, rect(5, 6, 7, 8)
	a, b := rect(0, 0, 4, 4), rect(1, 1, 2, 2)
	for name, call := range map[string]func() []window.Rect{
		"Plain":            func() []window.Rect { l, _ := window.Plain(x, w); return l },
		"Less":             func() []window.Rect { return window.Less(a, b) },
		"Less of no meet":  func() []window.Rect { return window.Less(b, rect(9, 9, 1, 1)) },
		"Cut":              func() []window.Rect { return window.Cut(x, w, api.Path{}) },
		"Cut of some":      func() []window.Rect { return window.Cut(x, w, api.Path{Depth: 2, Bits: 3}) },
		"Plain of nothing": func() []window.Rect { l, _ := window.Plain(x, rect(1, 1, 0, 3)); return l },
	} {
		first, second := call(), call()
		want := slices.Clone(first)
		spoil(first)
		if !slices.Equal(second, want) || !slices.Equal(call(), want) {
			t.Errorf("%s: %v, want %v", name, second, want)
		}
	}
}

// said: what all calls answer.
type said struct {
	right, has, within, covers bool
	of, meet                   window.Rect
	ofErr, plainErr            api.Errno
	area, dist                 int
	less, plain, cut           [5]window.Rect // one more than there may be, so that too many would not fit
}

// row: a list, so that it can be held against another one.
func row(t *testing.T, l []window.Rect) [5]window.Rect {
	t.Helper()
	if len(l) > 4 {
		t.Fatalf("more than four: %v", l)
	}
	var a [5]window.Rect
	copy(a[:], l)
	return a
}

// asked: of all calls together.
type asked struct {
	k    int
	a, b window.Rect
	p    api.Path
	c    api.Point
}

func ask(t *testing.T, q asked) said {
	t.Helper()
	var s said
	x := torus.Torus{K: q.k}
	s.right, s.has, s.within = window.Right(x, q.a), window.Has(q.a, q.c), window.Within(q.a, q.b)
	s.of, s.ofErr = window.Of(x, q.p)
	s.area, s.meet, s.less = window.Area(q.a), window.Meet(q.a, q.b), row(t, window.Less(q.a, q.b))
	plain, e := window.Plain(x, q.a)
	s.plain, s.plainErr = row(t, plain), e
	s.covers, s.cut = window.Covers(x, q.a, q.p), row(t, window.Cut(x, q.a, q.p))
	s.dist = window.Dist(x, q.a, q.c)
	return s
}

// P7, P8, P401: there is an answer, whatever is asked, and the same one again, whatever was asked between.
func TestAnythingTwice(t *testing.T) {
	first := map[asked]said{}
	numbers := []int{math.MinInt, -1, 0, 1, 2, most, most + 1, math.MaxInt}
	for range 2 {
		for _, k := range []int{math.MinInt, -1, 0, 1, 9, api.MaxK, api.MaxK + 1, 64, math.MaxInt} {
			for i, r := range grid(numbers, numbers) {
				n := numbers[i%len(numbers)]
				q := asked{k, r, rect(r.H, r.W, n, 2), api.Path{Depth: r.Y, Bits: n}, api.Point{X: r.W, Y: n}}
				got := ask(t, q)
				if was, ok := first[q]; ok && was != got {
					t.Fatalf("%v: %v, then %v", q, was, got)
				}
				if may := 1 <= k && k <= api.MaxK; !may && (got.right || got.covers || got.dist != -1 || got.ofErr != api.ErrArg || got.plainErr != api.ErrArg) {
					t.Fatalf("%v: %v", q, got)
				}
				first[q] = got
			}
		}
	}
}
