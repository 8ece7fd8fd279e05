package torus

import (
	"math"
	"testing"

	"glebe/api"
)

// wrongKs: of which there is no torus.
func wrongKs() []int {
	return []int{0, -1, -2, -16, -64, math.MinInt, api.MaxK + 1, api.MaxK + 2, 31, 32, 62, 63, 64, 65, 1 << 32, 1<<32 + 1, math.MaxInt}
}

// made: the torus of a k that may be.
func made(t *testing.T, k int) Torus {
	t.Helper()
	x, e := New(k)
	if e != api.OK || x.K != k {
		t.Fatalf("New(%d) = %v, %d", k, x, e)
	}
	return x
}

// wordSide: 2 times 2, so many times.
func wordSide(k int) int {
	side := 1
	for range k {
		side *= 2
	}
	return side
}

// numbers: from 0 to the side less 1, where something changes.
func numbers(k int) []int {
	side := wordSide(k)
	l := []int{0, side - 1}
	for _, n := range []int{1, side/2 - 1, side / 2, side/2 + 1, side - 2} {
		if 0 < n && n < side-1 {
			l = append(l, n)
		}
	}
	return l
}

// cells: of those numbers.
func cells(k int) []api.Point {
	var l []api.Point
	for _, x := range numbers(k) {
		for _, y := range numbers(k) {
			l = append(l, api.Point{X: x, Y: y})
		}
	}
	return l
}

// allCells: row by row.
func allCells(k int) []api.Point {
	var l []api.Point
	for y := range wordSide(k) {
		for x := range wordSide(k) {
			l = append(l, api.Point{X: x, Y: y})
		}
	}
	return l
}

// outside: numbers that are not from 0 to the side less 1.
func outside(k int) []int {
	side := wordSide(k)
	return []int{-1, -2, -side, -side - 1, 1 - side, side, side + 1, 2 * side, side * side, 1 << 32, 1<<32 + 1, -1 << 32, math.MinInt, math.MinInt + 1, math.MaxInt}
}

// noCells: points of which one number, or both, are outside.
func noCells(k int) []api.Point {
	var l []api.Point
	for _, o := range outside(k) {
		for _, n := range numbers(k) {
			l = append(l, api.Point{X: o, Y: n}, api.Point{X: n, Y: o})
		}
		for _, p := range outside(k) {
			l = append(l, api.Point{X: o, Y: p})
		}
	}
	return l
}

// wordUp: how many steps it is up from a to b, one by one.
func wordUp(side, a, b int) int {
	steps := 0
	for a != b {
		a++
		if a == side {
			a = 0
		}
		steps++
	}
	return steps
}

// wordDown: likewise.
func wordDown(side, a, b int) int {
	steps := 0
	for a != b {
		if a == 0 {
			a = side
		}
		a--
		steps++
	}
	return steps
}

func wordApart(side, a, b int) int { return min(wordUp(side, a, b), wordDown(side, a, b)) }

func wordDist(side int, p, q api.Point) int {
	return wordApart(side, p.X, q.X) + wordApart(side, p.Y, q.Y)
}

// wordWrap: a number less the side's multiples, rounded down.
func wordWrap(side, n int) int { return (n%side + side) % side }

// P202: New.
func TestNew(t *testing.T) {
	for k := 1; k <= api.MaxK; k++ {
		if x, e := New(k); e != api.OK || x != (Torus{K: k}) {
			t.Errorf("New(%d) = %v, %d", k, x, e)
		}
	}
	for _, k := range wrongKs() {
		if x, e := New(k); e != api.ErrArg || x != (Torus{}) {
			t.Errorf("New(%d) = %v, %d", k, x, e)
		}
	}
}

// P201: of a K that may not be, whatever the points and numbers.
func TestOfAKThatMayNotBe(t *testing.T) {
	points := append(cells(2), noCells(2)...)
	for _, k := range wrongKs() {
		x := Torus{K: k}
		if x.Side() != 0 || x.Area() != 0 {
			t.Errorf("K %d: Side %d, Area %d", k, x.Side(), x.Area())
		}
		for _, p := range points {
			nothingAt(t, x, p)
			if n := x.Apart(p.X, p.Y); n != -1 {
				t.Errorf("K %d: Apart%v = %d", k, p, n)
			}
			for _, n := range []int{p.X, p.Y} {
				if c, e := x.Cell(n); e != api.ErrArg || c != (api.Point{}) {
					t.Errorf("K %d: Cell(%d) = %v, %d", k, n, c, e)
				}
			}
			for _, q := range []api.Point{p, {}, {X: 1, Y: 1}, {X: -1, Y: -1}} {
				if n := x.Dist(p, q); n != -1 {
					t.Errorf("K %d: Dist(%v, %v) = %d", k, p, q, n)
				}
				if c, ok := x.Toward(p, q); ok || c != (api.Point{}) {
					t.Errorf("K %d: Toward(%v, %v) = %v, %v", k, p, q, c, ok)
				}
			}
		}
	}
}

// nothingAt: the calls of one point, of a K that may not be.
func nothingAt(t *testing.T, x Torus, p api.Point) {
	t.Helper()
	if x.Has(p) {
		t.Errorf("%v has %v", x, p)
	}
	if c := x.Wrap(p.X, p.Y); c != (api.Point{}) {
		t.Errorf("%v: Wrap of %v = %v", x, p, c)
	}
	if c, e := x.Move(p, 0, 0); e != api.ErrArg || c != (api.Point{}) {
		t.Errorf("%v: Move of %v = %v, %d", x, p, c, e)
	}
	if c, e := x.Move(p, 1, -1); e != api.ErrArg || c != (api.Point{}) {
		t.Errorf("%v: Move of %v = %v, %d", x, p, c, e)
	}
	if n, e := x.Number(p); e != api.ErrArg || n != 0 {
		t.Errorf("%v: Number of %v = %d, %d", x, p, n, e)
	}
	for _, d := range []int{math.MinInt, -1, 0, 1, 2, math.MaxInt} {
		if n := x.Ring(p, d); n != 0 {
			t.Errorf("%v: Ring(%v, %d) = %d", x, p, d, n)
		}
	}
}

// P202: Side and Area.
func TestSideAndArea(t *testing.T) {
	for k := 1; k <= api.MaxK; k++ {
		x, side := made(t, k), wordSide(k)
		if x.Side() != side || x.Area() != side*side {
			t.Errorf("K %d: Side %d, Area %d", k, x.Side(), x.Area())
		}
	}
	x := made(t, api.MaxK)
	if x.Side() != 65536 || x.Area() != 4294967296 {
		t.Errorf("MaxK: Side %d, Area %d", x.Side(), x.Area())
	}
}

// P202: Has.
func TestHas(t *testing.T) {
	for k := 1; k <= api.MaxK; k++ {
		x := made(t, k)
		for _, p := range cells(k) {
			if !x.Has(p) {
				t.Errorf("K %d has not %v", k, p)
			}
		}
		for _, p := range noCells(k) {
			if x.Has(p) {
				t.Errorf("K %d has %v", k, p)
			}
		}
	}
}

// P202: Wrap, of any x and y.
func TestWrap(t *testing.T) {
	for k := 1; k <= api.MaxK; k++ {
		x, side := made(t, k), wordSide(k)
		for _, p := range append(cells(k), noCells(k)...) {
			want := api.Point{X: wordWrap(side, p.X), Y: wordWrap(side, p.Y)}
			if c := x.Wrap(p.X, p.Y); c != want || !x.Has(c) {
				t.Errorf("K %d: Wrap of %v = %v, want %v", k, p, c, want)
			}
		}
	}
	x := made(t, 2)
	for n, want := range map[int]int{-9: 3, -8: 0, -5: 3, -4: 0, -3: 1, -1: 3, 0: 0, 3: 3, 4: 0, 5: 1, 7: 3, 8: 0, math.MinInt: 0, math.MaxInt: 3} {
		if c := x.Wrap(n, 1); c != (api.Point{X: want, Y: 1}) {
			t.Errorf("Wrap(%d, 1) = %v", n, c)
		}
		if c := x.Wrap(2, n); c != (api.Point{X: 2, Y: want}) {
			t.Errorf("Wrap(2, %d) = %v", n, c)
		}
	}
}

// P202: Move, from each cell by few steps, and by as many as may be.
func TestMove(t *testing.T) {
	for k := 1; k <= api.MaxK; k++ {
		x, side := made(t, k), wordSide(k)
		by := []int{0, 1, -1, 2, -2, side, -side, side - 1, 1 - side, side / 2, 1<<30 - 1, 1 << 30, 1 - 1<<30, -1 << 30}
		for _, p := range cells(k) {
			for _, dx := range by {
				for _, dy := range by {
					want := api.Point{X: wordWrap(side, p.X+dx), Y: wordWrap(side, p.Y+dy)}
					if c, e := x.Move(p, dx, dy); e != api.OK || c != want {
						t.Fatalf("K %d: Move(%v, %d, %d) = %v, %d", k, p, dx, dy, c, e)
					}
				}
			}
		}
	}
	x := made(t, 2)
	if c, e := x.Move(api.Point{X: 3, Y: 0}, 1, -1); e != api.OK || c != (api.Point{X: 0, Y: 3}) {
		t.Errorf("up and down round the side: %v, %d", c, e)
	}
}

func TestMoveRefuses(t *testing.T) {
	far := []int{1<<30 + 1, -1<<30 - 1, 1 << 31, 1 << 32, -1 << 32, math.MinInt, math.MinInt + 1, math.MaxInt}
	for k := 1; k <= api.MaxK; k++ {
		x := made(t, k)
		refused := func(p api.Point, dx, dy int) {
			t.Helper()
			if c, e := x.Move(p, dx, dy); e != api.ErrArg || c != (api.Point{}) {
				t.Errorf("K %d: Move(%v, %d, %d) = %v, %d", k, p, dx, dy, c, e)
			}
		}
		for _, p := range cells(k) {
			for _, d := range far {
				refused(p, d, 0)
				refused(p, 0, d)
				refused(p, d, 1<<30)
				refused(p, d, d)
			}
		}
		for _, p := range noCells(k) {
			refused(p, 0, 0)
			refused(p, 1, -1)
			refused(p, -p.X, -p.Y)
			refused(p, math.MaxInt, math.MinInt)
		}
	}
}

// P203: Apart.
func TestApart(t *testing.T) {
	for k := 1; k <= 6; k++ {
		x, side := made(t, k), wordSide(k)
		for a := range side {
			for b := range side {
				if n := x.Apart(a, b); n != wordApart(side, a, b) {
					t.Errorf("K %d: Apart(%d, %d) = %d", k, a, b, n)
				}
			}
		}
	}
	for k := 1; k <= api.MaxK; k++ {
		x, side := made(t, k), wordSide(k)
		for _, a := range numbers(k) {
			for _, b := range numbers(k) {
				if n := x.Apart(a, b); n != wordApart(side, a, b) {
					t.Errorf("K %d: Apart(%d, %d) = %d", k, a, b, n)
				}
			}
		}
		if x.Apart(0, side/2) != side/2 || x.Apart(side-1, side/2-1) != side/2 || x.Apart(0, side-1) != 1 {
			t.Errorf("K %d: half the side, or the last one", k)
		}
	}
}

func TestApartOfOtherNumbers(t *testing.T) {
	for k := 1; k <= api.MaxK; k++ {
		x := made(t, k)
		for _, o := range outside(k) {
			for _, n := range append(numbers(k), outside(k)...) {
				if x.Apart(o, n) != -1 || x.Apart(n, o) != -1 {
					t.Errorf("K %d: Apart of %d and %d: %d, %d", k, o, n, x.Apart(o, n), x.Apart(n, o))
				}
			}
		}
	}
}

// P203: Dist.
func TestDist(t *testing.T) {
	for k := 1; k <= 3; k++ {
		x, side := made(t, k), wordSide(k)
		for _, p := range allCells(k) {
			for _, q := range allCells(k) {
				if d := x.Dist(p, q); d != wordDist(side, p, q) {
					t.Errorf("K %d: Dist(%v, %v) = %d", k, p, q, d)
				}
			}
		}
	}
	if d := made(t, 2).Dist(api.Point{}, api.Point{X: 3, Y: 2}); d != 3 {
		t.Errorf("the example: %d", d)
	}
	x := made(t, api.MaxK)
	for q, want := range map[api.Point]int{{}: 0, {X: 65535, Y: 65535}: 2, {X: 32768, Y: 32768}: 65536, {X: 32769, Y: 32767}: 65534, {X: 0, Y: 40000}: 25536, {X: 40000, Y: 0}: 25536} {
		if d := x.Dist(api.Point{}, q); d != want {
			t.Errorf("MaxK: the distance of %v = %d, want %d", q, d, want)
		}
	}
}

// P203: Dist and Toward of no cells.
func TestOfNoCells(t *testing.T) {
	for _, k := range []int{1, 2, 7, api.MaxK} {
		x := made(t, k)
		for _, o := range noCells(k) {
			for _, p := range append(cells(k), o, x.Wrap(o.X, o.Y), api.Point{X: o.Y, Y: o.X}) {
				if x.Dist(o, p) != -1 || x.Dist(p, o) != -1 {
					t.Fatalf("K %d: Dist of %v and %v: %d, %d", k, o, p, x.Dist(o, p), x.Dist(p, o))
				}
				there, ok := x.Toward(o, p)
				back, go2 := x.Toward(p, o)
				if ok || go2 || there != (api.Point{}) || back != (api.Point{}) {
					t.Fatalf("K %d: Toward of %v and %v: %v, %v, %v, %v", k, o, p, there, ok, back, go2)
				}
			}
		}
	}
}

// wordToward: in X, where it differs, else in Y; up, if that is not farther than down.
func wordToward(side int, p, q api.Point) (api.Point, bool) {
	step := func(a, b int) int {
		if wordUp(side, a, b) <= wordDown(side, a, b) {
			return (a + 1) % side
		}
		return (a + side - 1) % side
	}
	if p.X != q.X {
		return api.Point{X: step(p.X, q.X), Y: p.Y}, true
	}
	if p.Y != q.Y {
		return api.Point{X: p.X, Y: step(p.Y, q.Y)}, true
	}
	return p, false
}

// P203: Toward.
func TestToward(t *testing.T) {
	for k := 1; k <= api.MaxK; k++ {
		x, side, l := made(t, k), wordSide(k), cells(k)
		if k <= 3 {
			l = allCells(k)
		} else if k > 8 {
			l = l[:9] // the words go step by step
		}
		for _, p := range l {
			for _, q := range l {
				want, way := wordToward(side, p, q)
				if c, ok := x.Toward(p, q); c != want || ok != way {
					t.Fatalf("K %d: Toward(%v, %v) = %v, %v, want %v, %v", k, p, q, c, ok, want, way)
				}
			}
		}
	}
}

func TestTowardKnown(t *testing.T) {
	for _, c := range []struct {
		k          int
		p, q, want api.Point
		way        bool
	}{
		{2, api.Point{}, api.Point{X: 3, Y: 2}, api.Point{X: 3}, true},
		{2, api.Point{X: 3}, api.Point{X: 3, Y: 2}, api.Point{X: 3, Y: 1}, true},
		{2, api.Point{X: 3, Y: 1}, api.Point{X: 3, Y: 2}, api.Point{X: 3, Y: 2}, true},
		{2, api.Point{}, api.Point{X: 2, Y: 2}, api.Point{X: 1}, true},
		{2, api.Point{X: 3}, api.Point{X: 1}, api.Point{}, true},
		{2, api.Point{Y: 3}, api.Point{Y: 1}, api.Point{}, true},
		{2, api.Point{Y: 1}, api.Point{}, api.Point{}, true},
		{2, api.Point{}, api.Point{Y: 3}, api.Point{Y: 3}, true},
		{2, api.Point{X: 1, Y: 2}, api.Point{X: 1, Y: 2}, api.Point{X: 1, Y: 2}, false},
		{1, api.Point{}, api.Point{X: 1, Y: 1}, api.Point{X: 1}, true},
		{1, api.Point{X: 1, Y: 1}, api.Point{}, api.Point{Y: 1}, true},
		{1, api.Point{Y: 1}, api.Point{}, api.Point{}, true},
		{16, api.Point{X: 65535}, api.Point{X: 32767}, api.Point{}, true},
		{16, api.Point{X: 65535}, api.Point{X: 32768}, api.Point{X: 65534}, true},
	} {
		if n, ok := made(t, c.k).Toward(c.p, c.q); n != c.want || ok != c.way {
			t.Errorf("K %d: Toward(%v, %v) = %v, %v", c.k, c.p, c.q, n, ok)
		}
	}
}

// P203: Ring, cell by cell as the words say.
func TestRing(t *testing.T) {
	for k := 1; k <= 4; k++ {
		x, side := made(t, k), wordSide(k)
		for _, p := range allCells(k) {
			count := map[int]int{}
			for _, q := range allCells(k) {
				count[wordDist(side, p, q)]++
			}
			for d := -3; d <= 2*side+3; d++ {
				if n := x.Ring(p, d); n != count[d] {
					t.Errorf("K %d: Ring(%v, %d) = %d, want %d", k, p, d, n, count[d])
				}
			}
		}
	}
}

func TestRingEdges(t *testing.T) {
	for k := 1; k <= api.MaxK; k++ {
		x, side := made(t, k), wordSide(k)
		for _, p := range cells(k) {
			for d, want := range map[int]int{
				0: 1, side: 1, side / 2: 2*side - 2,
				-1: 0, -2: 0, -side / 2: 0, -side: 0, math.MinInt: 0, math.MinInt + 1: 0, math.MinInt + side: 0,
				side + 1: 0, 2 * side: 0, side * side: 0, 1 << 32: 0, math.MaxInt: 0, math.MaxInt - side: 0,
			} {
				if n := x.Ring(p, d); n != want {
					t.Errorf("K %d: Ring(%v, %d) = %d, want %d", k, p, d, n, want)
				}
			}
			if k > 1 && (x.Ring(p, 1) != 4 || x.Ring(p, side-1) != 4) {
				t.Errorf("K %d: beside %v: %d, beside the farthest one: %d", k, p, x.Ring(p, 1), x.Ring(p, side-1))
			}
		}
		for _, p := range noCells(k) {
			for _, d := range []int{-1, 0, 1, side / 2, side} {
				if n := x.Ring(p, d); n != 0 {
					t.Errorf("K %d: Ring(%v, %d) = %d of no cell", k, p, d, n)
				}
			}
		}
	}
}

// P204: Number and Cell, there and back.
func TestNumberAndCell(t *testing.T) {
	for k := 1; k <= 5; k++ {
		x := made(t, k)
		for n, p := range allCells(k) {
			if m, e := x.Number(p); e != api.OK || m != n {
				t.Errorf("K %d: Number(%v) = %d, %d", k, p, m, e)
			}
			if q, e := x.Cell(n); e != api.OK || q != p {
				t.Errorf("K %d: Cell(%d) = %v, %d", k, n, q, e)
			}
		}
	}
	for k := 1; k <= api.MaxK; k++ {
		x, side := made(t, k), wordSide(k)
		for _, p := range cells(k) {
			want := p.Y*side + p.X
			n, e := x.Number(p)
			q, f := x.Cell(want)
			if e != api.OK || f != api.OK || n != want || q != p {
				t.Errorf("K %d: Number(%v) = %d, %d; Cell(%d) = %v, %d", k, p, n, e, want, q, f)
			}
		}
	}
	if n, e := made(t, 2).Number(api.Point{X: 3, Y: 1}); e != api.OK || n != 7 {
		t.Errorf("X 3, Y 1: %d, %d", n, e)
	}
}

func TestNumberAndCellRefuse(t *testing.T) {
	for k := 1; k <= api.MaxK; k++ {
		x, side := made(t, k), wordSide(k)
		for _, p := range noCells(k) {
			if n, e := x.Number(p); e != api.ErrArg || n != 0 {
				t.Errorf("K %d: Number(%v) = %d, %d", k, p, n, e)
			}
		}
		for _, n := range []int{-1, -side, math.MinInt, side * side, side*side + 1, 1 << 32, 1<<32 + 1, math.MaxInt} {
			if p, e := x.Cell(n); e != api.ErrArg || p != (api.Point{}) {
				t.Errorf("K %d: Cell(%d) = %v, %d", k, n, p, e)
			}
		}
		if p, e := x.Cell(side*side - 1); e != api.OK || p != (api.Point{X: side - 1, Y: side - 1}) {
			t.Errorf("K %d: the last cell: %v, %d", k, p, e)
		}
	}
}
