package window_test

import (
	"math"
	"slices"
	"testing"

	"glebe/api"
	"glebe/path"
	"glebe/torus"
	"glebe/window"
)

// In the model a rectangle, a window and a zone are the lists of their cells; all that a test asks for is worked out from such lists, as the chapter's words say.

type cells = []api.Point

// rect: short for tables.
func rect(x, y, w, h int) window.Rect { return window.Rect{X: x, Y: y, W: w, H: h} }

// side: of k, from 1 to MaxK.
func side(k int) int {
	n := 1
	for range k {
		n *= 2
	}
	return n
}

// cellsOf: of a rectangle that may be of some torus, row by row.
func cellsOf(r window.Rect) cells {
	var l cells
	for j := range r.H {
		for i := range r.W {
			l = append(l, api.Point{X: r.X + i, Y: r.Y + j})
		}
	}
	return l
}

// round: what is left of n, when the side was taken away as often as it goes.
func round(k, n int) int {
	for n >= side(k) {
		n -= side(k)
	}
	return n
}

// windowCells: of a window that may be; as often as they come.
func windowCells(k int, w window.Rect) cells {
	var l cells
	for _, c := range cellsOf(w) {
		l = append(l, api.Point{X: round(k, c.X), Y: round(k, c.Y)})
	}
	return l
}

// zoneCells: those that At leads to the path.
func zoneCells(k int, p api.Path) cells {
	return keep(cellsOf(rect(0, 0, side(k), side(k))), func(c api.Point) bool {
		q, _ := path.At(torus.Torus{K: k}, c, p.Depth)
		return q == p
	})
}

// keep: those of which it is so.
func keep(l cells, so func(api.Point) bool) cells {
	var kept cells
	for _, c := range l {
		if so(c) {
			kept = append(kept, c)
		}
	}
	return kept
}

// both: those of a that are in b.
func both(a, b cells) cells {
	return keep(a, func(c api.Point) bool { return slices.Contains(b, c) })
}

// frame: the rectangle that has just these cells; the zero one of none.
func frame(t *testing.T, l cells) window.Rect {
	t.Helper()
	if len(l) == 0 {
		return window.Rect{}
	}
	least, most := l[0], l[0]
	for _, c := range l {
		least = api.Point{X: min(least.X, c.X), Y: min(least.Y, c.Y)}
		most = api.Point{X: max(most.X, c.X), Y: max(most.Y, c.Y)}
	}
	r := rect(least.X, least.Y, most.X-least.X+1, most.Y-least.Y+1)
	if r.W*r.H != len(l) {
		t.Fatalf("no rectangle: %v", l)
	}
	return r
}

// frames: of lists that are not empty.
func frames(t *testing.T, parts ...cells) []window.Rect {
	t.Helper()
	var l []window.Rect
	for _, part := range parts {
		if len(part) > 0 {
			l = append(l, frame(t, part))
		}
	}
	return l
}

// plainCells: each cell of the window in one of four lists: it went round neither in X nor in Y, in Y, in X, in both.
func plainCells(k int, w window.Rect) []cells {
	l := make([]cells, 4)
	for _, c := range cellsOf(w) {
		i := 0
		if c.Y >= side(k) {
			i++
		}
		if c.X >= side(k) {
			i += 2
		}
		l[i] = append(l[i], api.Point{X: round(k, c.X), Y: round(k, c.Y)})
	}
	return l
}

// lessCells: the cells of a that are not in b: above b, below it, left and right of it; all together, where nothing is in both.
func lessCells(a, b window.Rect) []cells {
	l := cellsOf(a)
	if len(both(l, cellsOf(b))) == 0 {
		return []cells{l}
	}
	beside := func(c api.Point) bool { return b.Y <= c.Y && c.Y < b.Y+b.H }
	return []cells{
		keep(l, func(c api.Point) bool { return c.Y < b.Y }),
		keep(l, func(c api.Point) bool { return c.Y >= b.Y+b.H }),
		keep(l, func(c api.Point) bool { return beside(c) && c.X < b.X }),
		keep(l, func(c api.Point) bool { return beside(c) && c.X >= b.X+b.W }),
	}
}

// apart: as few steps as lead from a to b, up or down.
func apart(k, a, b int) int {
	for d := 0; ; d++ {
		if round(k, a+d) == b || round(k, b+d) == a {
			return d
		}
	}
}

// nearest: the least distance from the cell to one of the list.
func nearest(k int, l cells, c api.Point) int {
	least := math.MaxInt
	for _, o := range l {
		least = min(least, apart(k, c.X, o.X)+apart(k, c.Y, o.Y))
	}
	return least
}

// grid: all rectangles whose numbers are of these.
func grid(places, sizes []int) []window.Rect {
	var l []window.Rect
	for _, x := range places {
		for _, y := range places {
			for _, w := range sizes {
				for _, h := range sizes {
					l = append(l, rect(x, y, w, h))
				}
			}
		}
	}
	return l
}

// upTo: all numbers from least to most.
func upTo(least, most int) []int {
	var l []int
	for n := least; n <= most; n++ {
		l = append(l, n)
	}
	return l
}

// allPaths: that may be of k, up to that depth.
func allPaths(depth int) []api.Path {
	var l []api.Path
	for d := range depth + 1 {
		for b := range 1 << d {
			l = append(l, api.Path{Depth: d, Bits: b})
		}
	}
	return l
}

// halves: the path of that text.
func halves(t *testing.T, s string) api.Path {
	t.Helper()
	p, ok := path.Parse(s)
	if !ok {
		t.Fatalf("no text of a path: %q", s)
	}
	return p
}

// wrongKs: of which there is no torus.
func wrongKs() []int {
	return []int{0, -1, -2, -16, -64, math.MinInt, math.MinInt + 1, api.MaxK + 1, api.MaxK + 2, 30, 31, 32, 62, 63, 64, 65, 1 << 32, math.MaxInt - 1, math.MaxInt}
}

// someKs: from 1 to MaxK.
func someKs() []int { return upTo(1, api.MaxK) }

// most: up to it the numbers of any rectangle go.
const most = 1 << 30

// wrongNumbers: none that any rectangle may have.
func wrongNumbers() []int {
	return []int{-1, -2, -most, -most - 1, math.MinInt, math.MinInt + 1, most + 1, most + 2, 2 * most, 1 << 32, 1<<32 + 1, 1 << 62, math.MaxInt - 1, math.MaxInt}
}

// turned: the rectangle with one number in place of each of its own, and with it in place of all.
func turned(r window.Rect, n int) []window.Rect {
	return []window.Rect{{n, r.Y, r.W, r.H}, {r.X, n, r.W, r.H}, {r.X, r.Y, n, r.H}, {r.X, r.Y, r.W, n}, {n, n, n, n}}
}

// wrongPaths: none that may be of k.
func wrongPaths(k int) []api.Path {
	return []api.Path{
		{Depth: -1}, {Depth: 2*k + 1}, {Depth: 2*k + 2}, {Depth: 2*api.MaxK + 1}, {Depth: 64}, {Depth: math.MinInt}, {Depth: math.MaxInt},
		{Bits: 1}, {Bits: -1}, {Depth: 1, Bits: 2}, {Depth: 1, Bits: -1}, {Depth: 2 * k, Bits: 1 << (2 * k)}, {Depth: 2, Bits: math.MinInt}, {Depth: 2, Bits: math.MaxInt},
	}
}
