package torus

import (
	"math"
	"math/rand"
	"testing"

	"glebe/api"
)

// someCells: the same ones on each run.
func someCells(k int, seed int64, n int) []api.Point {
	r := rand.New(rand.NewSource(seed))
	l := make([]api.Point, n)
	for i := range l {
		l[i] = api.Point{X: r.Intn(wordSide(k)), Y: r.Intn(wordSide(k))}
	}
	return l
}

// metric: P205 of three cells.
func metric(t *testing.T, x Torus, p, q, r api.Point) {
	t.Helper()
	d := x.Dist(p, q)
	if d < 0 || d > x.Side() || (d == 0) != (p == q) {
		t.Fatalf("%v: Dist(%v, %v) = %d", x, p, q, d)
	}
	if back := x.Dist(q, p); back != d {
		t.Fatalf("%v: %v and %v: %d there, %d back", x, p, q, d, back)
	}
	if round := x.Dist(p, r) + x.Dist(r, q); round < d {
		t.Fatalf("%v: from %v to %v %d, by %v %d", x, p, q, d, r, round)
	}
}

// moved: P205 of two cells that are moved alike.
func moved(t *testing.T, x Torus, p, q api.Point, dx, dy int) {
	t.Helper()
	a, e := x.Move(p, dx, dy)
	b, f := x.Move(q, dx, dy)
	if e != api.OK || f != api.OK || x.Dist(a, b) != x.Dist(p, q) {
		t.Fatalf("%v: %v and %v: %d; moved by %d and %d: %d", x, p, q, x.Dist(p, q), dx, dy, x.Dist(a, b))
	}
}

// P205: a metric.
func TestMetric(t *testing.T) {
	for k := 1; k <= api.MaxK; k++ {
		x, l := made(t, k), append(cells(k), someCells(k, int64(k), 20)...)
		if k <= 2 {
			l = allCells(k)
		}
		for _, p := range l {
			for _, q := range l {
				for _, r := range l {
					metric(t, x, p, q, r)
				}
			}
		}
	}
}

func TestMovedAlike(t *testing.T) {
	for k := 1; k <= api.MaxK; k++ {
		x, side := made(t, k), wordSide(k)
		l := append(cells(k), someCells(k, int64(k), 9)...)
		for _, p := range l {
			for _, q := range l {
				for _, d := range []int{1, -1, side / 2, side - 1, side, 1 << 30, -1 << 30, 12345} {
					moved(t, x, p, q, d, 0)
					moved(t, x, p, q, 0, d)
					moved(t, x, p, q, d, -d)
				}
			}
		}
	}
}

// walk: from p to q by Toward: each step goes to a cell at the distance 1 that is nearer by 1.
func walk(t *testing.T, x Torus, p, q api.Point) {
	t.Helper()
	at, left := p, x.Dist(p, q)
	for left > 0 {
		next, ok := x.Toward(at, q)
		if !ok || x.Dist(at, next) != 1 || x.Dist(next, q) != left-1 {
			t.Fatalf("%v: from %v to %v: %v, %v, with %d steps left", x, at, q, next, ok, left)
		}
		at, left = next, left-1
	}
	if next, ok := x.Toward(at, q); at != q || ok || next != q {
		t.Fatalf("%v: from %v to %v: came to %v, and on to %v, %v", x, p, q, at, next, ok)
	}
}

// P206: steps.
func TestSteps(t *testing.T) {
	for k := 1; k <= api.MaxK; k++ {
		x, l := made(t, k), someCells(k, int64(k), 5)
		if k <= 3 {
			l = allCells(k)
		} else if k <= 7 {
			l = cells(k)
		}
		for _, p := range l {
			for _, q := range l {
				walk(t, x, p, q)
			}
		}
	}
	half := wordSide(api.MaxK) / 2
	walk(t, made(t, api.MaxK), api.Point{}, api.Point{X: half, Y: half})
	walk(t, made(t, api.MaxK), api.Point{X: 2*half - 1, Y: half + 1}, api.Point{X: half, Y: 1})
}

// P207: rings.
func TestRingsHaveAllCells(t *testing.T) {
	for k := 1; k <= api.MaxK; k++ {
		x := made(t, k)
		for i, p := range someCells(k, int64(k), 3) {
			if k > 10 && i > 0 {
				break // a ring of a great torus takes its time
			}
			all := 0
			for d := range x.Side() + 1 {
				n := x.Ring(p, d)
				if n < 1 {
					t.Fatalf("K %d: Ring(%v, %d) = %d", k, p, d, n)
				}
				all += n
			}
			if all != x.Area() {
				t.Errorf("K %d: the rings round %v have %d cells of %d", k, p, all, x.Area())
			}
		}
	}
}

// strange: numbers of which some do not fit anything.
func strange() []int {
	return []int{math.MinInt, math.MinInt + 1, -1 << 32, -1<<30 - 1, -1 << 30, -2, -1, 0, 1, 2, 3, 32768, 65535, 65536, 1 << 30, 1<<30 + 1, 1 << 32, math.MaxInt - 1, math.MaxInt}
}

// answers: of all calls, of one torus and three numbers.
func answers(k, a, b, c int) [16]int {
	x, p, q := Torus{K: k}, api.Point{X: a, Y: b}, api.Point{X: c, Y: a}
	made, e := New(k)
	w := x.Wrap(a, b)
	m, f := x.Move(p, b, c)
	s, ok := x.Toward(p, q)
	n, g := x.Number(p)
	cell, h := x.Cell(c)
	out := [16]int{made.K, int(e), x.Side(), x.Area(), w.X, w.Y, m.X, m.Y, int(f), x.Apart(a, b), x.Dist(p, q), s.X*2 + s.Y*3, n, int(g), cell.X*2 + cell.Y*3, int(h)}
	if ok != (p != q && x.Has(p) && x.Has(q)) || x.Ring(p, c) < 0 {
		out[0] = -1
	}
	return out
}

// P7, P8, P201: there is an answer, whatever is asked, and the same one again, whatever was asked between.
func TestAnythingTwice(t *testing.T) {
	ks := append(wrongKs(), 1, 2, 9, api.MaxK)
	first := map[[4]int][16]int{}
	for range 2 {
		for _, k := range ks {
			for _, a := range strange() {
				for _, b := range strange() {
					for _, c := range []int{math.MinInt, -1, 0, 1, 300, 1 << 32, math.MaxInt} {
						asked, got := [4]int{k, a, b, c}, answers(k, a, b, c)
						if was, ok := first[asked]; ok && was != got {
							t.Fatalf("%v: %v, then %v", asked, was, got)
						}
						if got[0] == -1 {
							t.Fatalf("%v: Toward and Has say otherwise, or a ring below 0", asked)
						}
						first[asked] = got
					}
				}
			}
		}
	}
}
