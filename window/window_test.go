package window_test

import (
	"math"
	"slices"
	"testing"

	"glebe/api"
	"glebe/path"
	"glebe/torus"
	"glebe/window"
)

// rightIs: what Right has to answer.
func rightIs(t *testing.T, k int, r window.Rect, want bool) {
	t.Helper()
	if got := window.Right(torus.Torus{K: k}, r); got != want {
		t.Errorf("K %d: Right(%v) = %v", k, r, got)
	}
}

// P402: Right, at the edges of each torus.
func TestRight(t *testing.T) {
	for _, k := range someKs() {
		n := side(k)
		for _, r := range []window.Rect{
			{}, {0, 0, n, n}, {0, 0, 1, 1}, {n - 1, n - 1, 1, 1}, {n - 1, 0, 1, n}, {0, n - 1, n, 1}, {1, 1, n - 1, n - 1},
			{n, n, 0, 0}, {n, 0, 0, n}, {0, n, n, 0}, {n - 1, n - 1, 0, 1}, {n / 2, n / 2, n / 2, n / 2},
		} {
			rightIs(t, k, r, true)
		}
		for _, r := range []window.Rect{
			{0, 0, n + 1, n}, {0, 0, n, n + 1}, {1, 0, n, n}, {0, 1, n, n}, {n, 0, 1, 1}, {0, n, 1, 1}, {n - 1, 0, 2, 1}, {0, n - 1, 1, 2},
			{n + 1, 0, 0, 0}, {0, n + 1, 0, 0}, {n + 1, 0, -1, 1}, {0, n + 1, 1, -1}, {1, 0, -1, 1}, {-1, 0, 1, 1}, {0, -1, 1, 1}, {-1, 0, n, n}, {0, -1, n, n},
			{math.MaxInt, 0, math.MaxInt, 1}, {0, math.MaxInt, 1, math.MaxInt}, {math.MaxInt, 0, 1, 1}, {0, math.MaxInt, 1, 1}, {1, 0, math.MaxInt, 1}, {0, 1, 1, math.MaxInt},
			{math.MinInt, 0, math.MinInt, 1}, {0, math.MinInt, 1, math.MinInt}, {math.MinInt, 0, math.MaxInt, 1}, {0, math.MaxInt, 1, math.MinInt}, {most, most, 0, 0},
		} {
			rightIs(t, k, r, false)
		}
	}
}

// P402: Right, of all rectangles round a small torus.
func TestRightOfAll(t *testing.T) {
	for k := 1; k <= 2; k++ {
		n := side(k)
		for _, r := range grid(upTo(-2, n+2), upTo(-2, n+2)) {
			rightIs(t, k, r, min(r.X, r.Y, r.W, r.H) >= 0 && r.X+r.W <= n && r.Y+r.H <= n)
		}
	}
}

// Of no torus nothing may be, not even what has no cells; and no path has a rectangle.
func TestOfNoTorus(t *testing.T) {
	for _, k := range wrongKs() {
		x := torus.Torus{K: k}
		for _, r := range append(grid([]int{-1, 0, 1}, []int{0, 1, 2}), rect(0, 0, most, most), rect(math.MinInt, 0, math.MaxInt, 1)) {
			rightIs(t, k, r, false)
			plainIs(t, k, r, nil, api.ErrArg)
			distIs(t, k, r, api.Point{}, -1)
			for _, p := range []api.Path{{}, {Depth: 1}, {Depth: -1}, {Depth: 32}} {
				cutIs(t, k, r, p, nil, false)
			}
		}
		for _, p := range append(allPaths(3), wrongPaths(1)...) {
			if r, e := window.Of(x, p); r != (window.Rect{}) || e != api.ErrArg {
				t.Errorf("K %d: Of(%v) = %v, %d", k, p, r, e)
			}
		}
	}
}

// P402: Of, by the cells that At leads to the path.
func TestOfByCells(t *testing.T) {
	for k := 1; k <= 3; k++ {
		for _, p := range allPaths(2 * k) {
			if r, e := window.Of(torus.Torus{K: k}, p); r != frame(t, zoneCells(k, p)) || e != api.OK {
				t.Errorf("K %d: Of(%v) = %v, %d", k, p, r, e)
			}
		}
	}
}

// P402: Of, of any K.
func TestOf(t *testing.T) {
	for _, k := range someKs() {
		x, n := torus.Torus{K: k}, side(k)
		for p, want := range map[api.Path]window.Rect{
			{}:                                     {0, 0, n, n},
			{Depth: 1, Bits: 1}:                    {n / 2, 0, n / 2, n},
			{Depth: 2, Bits: 1}:                    {0, n / 2, n / 2, n / 2},
			{Depth: 2 * k}:                         {0, 0, 1, 1},
			{Depth: 2 * k, Bits: 1<<(2*k) - 1}:     {n - 1, n - 1, 1, 1},
			{Depth: 2*k - 1, Bits: 1<<(2*k-1) - 1}: {n - 1, n - 2, 1, 2},
		} {
			if r, e := window.Of(x, p); r != want || e != api.OK {
				t.Errorf("K %d: Of(%v) = %v, %d, want %v", k, p, r, e, want)
			}
		}
		for _, p := range wrongPaths(k) {
			if r, e := window.Of(x, p); r != (window.Rect{}) || e != api.ErrArg {
				t.Errorf("K %d: Of(%v) = %v, %d", k, p, r, e)
			}
		}
	}
}

// areaIs: what Area has to answer.
func areaIs(t *testing.T, r window.Rect, want int) {
	t.Helper()
	if got := window.Area(r); got != want {
		t.Errorf("Area(%v) = %d, want %d", r, got, want)
	}
}

// P402: Area.
func TestArea(t *testing.T) {
	for _, r := range grid(upTo(0, 3), upTo(0, 5)) {
		areaIs(t, r, len(cellsOf(r)))
	}
	areaIs(t, rect(0, 0, most, most), 1<<60)
	areaIs(t, rect(most, most, most, most), 1<<60)
	areaIs(t, rect(most, most, most, 1), most)
	areaIs(t, rect(most, most, 3, most), 3*most)
	areaIs(t, rect(most, most, most, 0), 0)
	areaIs(t, rect(0, 0, 65536, 65536), 1<<32)
}

// hasIs: what Has has to answer.
func hasIs(t *testing.T, r window.Rect, c api.Point, want bool) {
	t.Helper()
	if got := window.Has(r, c); got != want {
		t.Errorf("Has(%v, %v) = %v", r, c, got)
	}
}

// P402: Has.
func TestHas(t *testing.T) {
	for _, r := range grid(upTo(0, 2), upTo(0, 3)) {
		l := cellsOf(r)
		for _, x := range upTo(-1, 6) {
			for _, y := range upTo(-1, 6) {
				c := api.Point{X: x, Y: y}
				hasIs(t, r, c, slices.Contains(l, c))
			}
		}
	}
	for _, n := range append(wrongNumbers(), -3, 4) {
		hasIs(t, rect(0, 0, 4, 4), api.Point{X: n, Y: 1}, false)
		hasIs(t, rect(0, 0, 4, 4), api.Point{X: 1, Y: n}, false)
	}
	for _, c := range []api.Point{{X: most, Y: most}, {X: 2*most - 1, Y: 2*most - 1}, {X: most, Y: 2*most - 1}} {
		hasIs(t, rect(most, most, most, most), c, true)
	}
	for _, c := range []api.Point{{X: most - 1, Y: most}, {X: most, Y: most - 1}, {X: 2 * most, Y: most}, {X: most, Y: 2 * most}, {X: math.MaxInt, Y: most}, {X: most, Y: math.MinInt}} {
		hasIs(t, rect(most, most, most, most), c, false)
	}
}

// pairIs: what Meet, Within and Less have to answer.
func pairIs(t *testing.T, a, b, meet window.Rect, within bool, less []window.Rect) {
	t.Helper()
	if got := window.Meet(a, b); got != meet {
		t.Fatalf("Meet(%v, %v) = %v, want %v", a, b, got, meet)
	}
	if got := window.Within(a, b); got != within {
		t.Fatalf("Within(%v, %v) = %v", a, b, got)
	}
	if got := window.Less(a, b); !slices.Equal(got, less) {
		t.Fatalf("Less(%v, %v) = %v, want %v", a, b, got, less)
	}
}

// times: each number so many times.
func times(r window.Rect, n int) window.Rect { return rect(r.X*n, r.Y*n, r.W*n, r.H*n) }

func allTimes(l []window.Rect, n int) []window.Rect {
	var out []window.Rect
	for _, r := range l {
		out = append(out, times(r, n))
	}
	return out
}

// P402: Meet, Within and Less, by cells: of all pairs of small rectangles, and of such with greater cells, up to numbers of 2^30.
func TestPairs(t *testing.T) {
	l := append(grid(upTo(0, 2), upTo(0, 3)), grid([]int{0, 1, 4}, []int{0, 4})...)
	for _, a := range l {
		for _, b := range l {
			meet := frame(t, both(cellsOf(a), cellsOf(b)))
			within := len(both(cellsOf(a), cellsOf(b))) == len(cellsOf(a))
			less := frames(t, lessCells(a, b)...)
			for _, n := range []int{1, 3, most / 4} {
				pairIs(t, times(a, n), times(b, n), times(meet, n), within, allTimes(less, n))
			}
		}
	}
}

// P402: pairs, written out.
func TestPairsKnown(t *testing.T) {
	for _, c := range []struct {
		a, b, meet window.Rect
		within     bool
		less       []window.Rect
	}{
		{rect(0, 0, 4, 4), rect(1, 1, 2, 2), rect(1, 1, 2, 2), false, []window.Rect{{0, 0, 4, 1}, {0, 3, 4, 1}, {0, 1, 1, 2}, {3, 1, 1, 2}}},
		{rect(1, 1, 2, 2), rect(0, 0, 4, 4), rect(1, 1, 2, 2), true, nil},
		{rect(2, 3, 4, 5), rect(2, 3, 4, 5), rect(2, 3, 4, 5), true, nil},
		{rect(0, 0, 2, 2), rect(2, 0, 2, 2), window.Rect{}, false, []window.Rect{{0, 0, 2, 2}}},
		{rect(0, 0, 2, 2), rect(0, 2, 2, 2), window.Rect{}, false, []window.Rect{{0, 0, 2, 2}}},
		{rect(0, 0, 2, 2), rect(2, 2, 2, 2), window.Rect{}, false, []window.Rect{{0, 0, 2, 2}}},
		{rect(0, 1, 9, 1), rect(4, 0, 1, 3), rect(4, 1, 1, 1), false, []window.Rect{{0, 1, 4, 1}, {5, 1, 4, 1}}},
		{rect(4, 0, 1, 3), rect(0, 1, 9, 1), rect(4, 1, 1, 1), false, []window.Rect{{4, 0, 1, 1}, {4, 2, 1, 1}}},
		{rect(0, 0, 3, 3), rect(2, 2, 3, 3), rect(2, 2, 1, 1), false, []window.Rect{{0, 0, 3, 2}, {0, 2, 2, 1}}},
		{rect(2, 2, 3, 3), rect(0, 0, 3, 3), rect(2, 2, 1, 1), false, []window.Rect{{2, 3, 3, 2}, {3, 2, 2, 1}}},
		{rect(5, 5, 0, 3), rect(0, 0, 9, 9), window.Rect{}, true, nil},
		{rect(5, 5, 3, 0), rect(0, 0, 1, 1), window.Rect{}, true, nil},
		{rect(5, 5, 0, 0), rect(7, 7, 0, 0), window.Rect{}, true, nil},
		{rect(0, 0, 9, 9), rect(5, 5, 0, 3), window.Rect{}, false, []window.Rect{{0, 0, 9, 9}}},
		{rect(0, 0, 9, 9), rect(5, 5, 3, 0), window.Rect{}, false, []window.Rect{{0, 0, 9, 9}}},
		{rect(0, 0, most, most), rect(most, most, most, most), window.Rect{}, false, []window.Rect{{0, 0, most, most}}},
		{rect(most, most, most, most), rect(most, most, 1, 1), rect(most, most, 1, 1), false, []window.Rect{{most, most + 1, most, most - 1}, {most + 1, most, most - 1, 1}}},
		{rect(0, 0, most, most), rect(most-1, most-1, most, most), rect(most-1, most-1, 1, 1), false, []window.Rect{{0, 0, most, most - 1}, {0, most - 1, most - 1, 1}}},
	} {
		pairIs(t, c.a, c.b, c.meet, c.within, c.less)
	}
}

// P402: of a rectangle with a number that is none, whatever the other one is.
func TestOfNoNumbers(t *testing.T) {
	for _, r := range []window.Rect{{}, {0, 0, 4, 4}, {1, 2, 1, 1}, {3, 3, 0, 2}, {0, 0, most, most}, {most, most, most, most}} {
		for _, n := range wrongNumbers() {
			for _, o := range turned(r, n) {
				areaIs(t, o, 0)
				for _, c := range []api.Point{{}, {X: 1, Y: 2}, {X: o.X, Y: o.Y}, {X: most, Y: most}} {
					hasIs(t, o, c, false)
				}
				pairIs(t, o, r, window.Rect{}, false, nil)
				pairIs(t, r, o, window.Rect{}, false, nil)
				pairIs(t, o, o, window.Rect{}, false, nil)
			}
		}
	}
}

// plainIs: what Plain has to answer.
func plainIs(t *testing.T, k int, w window.Rect, want []window.Rect, e api.Errno) {
	t.Helper()
	if l, f := window.Plain(torus.Torus{K: k}, w); !slices.Equal(l, want) || f != e {
		t.Fatalf("K %d: Plain(%v) = %v, %d, want %v, %d", k, w, l, f, want, e)
	}
}

// mayBe: what the chapter says of a window.
func mayBe(k int, w window.Rect) bool {
	n := side(k)
	return 0 <= w.X && w.X < n && 0 <= w.Y && w.Y < n && 0 <= w.W && w.W <= n && 0 <= w.H && w.H <= n
}

// P403: Plain, by cells, of all windows of small toruses, and of those that may just not be.
func TestPlainByCells(t *testing.T) {
	for k := 1; k <= 3; k++ {
		n := side(k)
		for _, w := range grid(upTo(-1, n+1), upTo(-1, n+1)) {
			if mayBe(k, w) {
				plainIs(t, k, w, frames(t, plainCells(k, w)...), api.OK)
			} else {
				plainIs(t, k, w, nil, api.ErrArg)
			}
		}
	}
}

// P403: Plain, of any K: round in neither, in X, in Y and in both; as wide or as high as the side.
func TestPlain(t *testing.T) {
	plainIs(t, 2, rect(3, 3, 2, 1), []window.Rect{{3, 3, 1, 1}, {0, 3, 1, 1}}, api.OK)
	for _, k := range someKs() {
		n := side(k)
		for _, c := range []struct {
			w    window.Rect
			want []window.Rect
		}{
			{rect(0, 0, n, n), []window.Rect{{0, 0, n, n}}},
			{rect(1, 1, n-1, n-1), []window.Rect{{1, 1, n - 1, n - 1}}},
			{rect(n-1, 0, 2, 1), []window.Rect{{n - 1, 0, 1, 1}, {0, 0, 1, 1}}},
			{rect(0, n-1, 1, 2), []window.Rect{{0, n - 1, 1, 1}, {0, 0, 1, 1}}},
			{rect(1, 0, n, n), []window.Rect{{1, 0, n - 1, n}, {0, 0, 1, n}}},
			{rect(0, 1, n, n), []window.Rect{{0, 1, n, n - 1}, {0, 0, n, 1}}},
			{rect(n-1, n-1, n, n), []window.Rect{{n - 1, n - 1, 1, 1}, {n - 1, 0, 1, n - 1}, {0, n - 1, n - 1, 1}, {0, 0, n - 1, n - 1}}},
			{rect(n-1, n-1, 2, 2), []window.Rect{{n - 1, n - 1, 1, 1}, {n - 1, 0, 1, 1}, {0, n - 1, 1, 1}, {0, 0, 1, 1}}},
			{rect(0, 0, 0, 0), nil}, {rect(n-1, n-1, 0, n), nil}, {rect(n-1, n-1, n, 0), nil}, {rect(0, 0, 1, 0), nil}, {rect(0, 0, 0, 1), nil},
		} {
			plainIs(t, k, c.w, c.want, api.OK)
		}
		for _, w := range []window.Rect{
			{n, 0, 1, 1}, {0, n, 1, 1}, {n, n, 0, 0}, {n, 0, 0, 0}, {0, n, 0, 0}, {0, 0, n + 1, 1}, {0, 0, 1, n + 1}, {0, 0, n + 1, 0}, {0, 0, 0, n + 1},
			{-1, 0, 1, 1}, {0, -1, 1, 1}, {-1, 0, 0, 0}, {0, -1, 0, 0}, {0, 0, -1, 1}, {0, 0, 1, -1}, {0, 0, -1, 0}, {0, 0, 0, -1}, {-n, -n, 1, 1},
		} {
			plainIs(t, k, w, nil, api.ErrArg)
		}
		for _, o := range wrongNumbers() {
			for _, w := range turned(rect(n-1, n-1, n, n), o) {
				plainIs(t, k, w, nil, api.ErrArg)
			}
		}
	}
}

// cutIs: what Cut and Covers have to answer.
func cutIs(t *testing.T, k int, w window.Rect, p api.Path, cut []window.Rect, covers bool) {
	t.Helper()
	x := torus.Torus{K: k}
	if got := window.Cut(x, w, p); !slices.Equal(got, cut) {
		t.Fatalf("K %d: Cut(%v, %v) = %v, want %v", k, w, p, got, cut)
	}
	if got := window.Covers(x, w, p); got != covers {
		t.Fatalf("K %d: Covers(%v, %v) = %v", k, w, p, got)
	}
}

// P403: Cut and Covers, by cells, of all windows and zones of small toruses.
func TestCutByCells(t *testing.T) {
	for k := 1; k <= 2; k++ {
		n := side(k)
		for _, w := range grid(upTo(0, n-1), upTo(0, n)) {
			for _, p := range allPaths(2 * k) {
				zone := zoneCells(k, p)
				var parts []cells
				for _, l := range plainCells(k, w) {
					parts = append(parts, both(l, zone))
				}
				covered := both(zone, windowCells(k, w))
				cutIs(t, k, w, p, frames(t, parts...), len(covered) == len(zone))
			}
		}
	}
}

// P403: Cut and Covers, written out: a zone that is covered just, all but a cell, and not at all; one of a single cell, and one whose width and height are unlike.
func TestCutKnown(t *testing.T) {
	for _, c := range []struct {
		k      int
		w      window.Rect
		zone   string
		cut    []window.Rect
		covers bool
	}{
		{2, rect(0, 0, 4, 4), "-", []window.Rect{{0, 0, 4, 4}}, true},
		{2, rect(2, 3, 4, 4), "-", []window.Rect{{2, 3, 2, 1}, {2, 0, 2, 3}, {0, 3, 2, 1}, {0, 0, 2, 3}}, true},
		{2, rect(3, 0, 3, 4), "-", []window.Rect{{3, 0, 1, 4}, {0, 0, 2, 4}}, false},
		{2, rect(2, 0, 2, 4), "1", []window.Rect{{2, 0, 2, 4}}, true},
		{2, rect(2, 1, 2, 3), "1", []window.Rect{{2, 1, 2, 3}}, false},
		{2, rect(3, 0, 1, 4), "1", []window.Rect{{3, 0, 1, 4}}, false},
		{2, rect(0, 0, 2, 4), "1", nil, false},
		{2, rect(3, 3, 4, 4), "0", []window.Rect{{0, 3, 2, 1}, {0, 0, 2, 3}}, true},
		{2, rect(3, 0, 3, 2), "00", []window.Rect{{0, 0, 2, 2}}, true},
		{2, rect(3, 0, 2, 2), "00", []window.Rect{{0, 0, 1, 2}}, false},
		{2, rect(3, 1, 1, 1), "1011", []window.Rect{{3, 1, 1, 1}}, true},
		{2, rect(2, 1, 1, 1), "1011", nil, false},
		{2, rect(3, 1, 1, 1), "101", []window.Rect{{3, 1, 1, 1}}, false},
		{2, rect(3, 0, 0, 4), "101", nil, false},
		{2, rect(3, 0, 1, 0), "1010", nil, false},
		{16, rect(65535, 65535, 65536, 65536), "11", []window.Rect{{65535, 65535, 1, 1}, {65535, 32768, 1, 32767}, {32768, 65535, 32767, 1}, {32768, 32768, 32767, 32767}}, true},
		{16, rect(65535, 65535, 2, 2), "00000000000000000000000000000000", []window.Rect{{0, 0, 1, 1}}, true},
		{16, rect(0, 0, 65536, 65536), "-", []window.Rect{{0, 0, 65536, 65536}}, true},
		{16, rect(0, 0, 65536, 65535), "-", []window.Rect{{0, 0, 65536, 65535}}, false},
	} {
		cutIs(t, c.k, c.w, halves(t, c.zone), c.cut, c.covers)
	}
}

// P403: Cut and Covers of a window, or a path, that may not be.
func TestCutOfNone(t *testing.T) {
	for _, k := range someKs() {
		n := side(k)
		for _, p := range wrongPaths(k) {
			for _, w := range []window.Rect{{}, {0, 0, n, n}, {n - 1, n - 1, n, n}, {n, 0, 1, 1}} {
				cutIs(t, k, w, p, nil, false)
			}
		}
		for _, p := range []api.Path{{}, {Depth: 1, Bits: 1}, {Depth: 2 * k}} {
			for _, w := range []window.Rect{{n, 0, n, n}, {0, n, n, n}, {0, 0, n + 1, n}, {0, 0, n, n + 1}, {-1, 0, n, n}, {0, -1, n, n}, {0, 0, -1, n}, {0, 0, n, -1}} {
				cutIs(t, k, w, p, nil, false)
			}
			for _, o := range wrongNumbers() {
				for _, w := range turned(rect(0, 0, n, n), o) {
					cutIs(t, k, w, p, nil, false)
				}
			}
		}
	}
}

// distIs: what Dist has to answer.
func distIs(t *testing.T, k int, r window.Rect, c api.Point, want int) {
	t.Helper()
	if got := window.Dist(torus.Torus{K: k}, r, c); got != want {
		t.Fatalf("K %d: Dist(%v, %v) = %d, want %d", k, r, c, got, want)
	}
}

// P403: Dist, by cells, of all rectangles and cells of small toruses, and of those that may just not be.
func TestDistByCells(t *testing.T) {
	for k := 1; k <= 2; k++ {
		n := side(k)
		points := cellsOf(rect(0, 0, n, n))
		for _, r := range grid(upTo(-1, n+1), upTo(-1, n+1)) {
			may := min(r.X, r.Y) >= 0 && min(r.W, r.H) > 0 && r.X+r.W <= n && r.Y+r.H <= n
			for _, c := range points {
				if may {
					distIs(t, k, r, c, nearest(k, cellsOf(r), c))
				} else {
					distIs(t, k, r, c, -1)
				}
			}
		}
	}
}

// P403: Dist, of any K: in the rectangle, beside it, and as far as it goes, the short way round.
func TestDist(t *testing.T) {
	for _, k := range someKs() {
		n := side(k)
		for _, c := range []struct {
			r    window.Rect
			cell api.Point
			want int
		}{
			{rect(0, 0, n, n), api.Point{X: n - 1, Y: n / 2}, 0},
			{rect(0, 0, 1, 1), api.Point{}, 0},
			{rect(0, 0, 1, 1), api.Point{X: 1}, 1},
			{rect(0, 0, 1, 1), api.Point{Y: n - 1}, 1},
			{rect(0, 0, 1, 1), api.Point{X: n - 1, Y: n - 1}, 2},
			{rect(0, 0, 1, 1), api.Point{X: n / 2, Y: n / 2}, n},
			{rect(n-1, n-1, 1, 1), api.Point{}, 2},
			{rect(n/2, n/2, 1, 1), api.Point{}, n},
			{rect(0, 0, n, 1), api.Point{X: n - 1, Y: n / 2}, n / 2},
			{rect(0, 0, 1, n), api.Point{X: n / 2, Y: n - 1}, n / 2},
			{rect(0, 0, n/2, n/2), api.Point{X: n / 2, Y: n / 2}, 2},
			{rect(0, 0, n/2, n/2), api.Point{X: n - 1, Y: n - 1}, 2},
			{rect(0, 0, n/2, n/2), api.Point{X: n/2 + n/4, Y: n/2 + n/4}, 2 * max(1, n/4)},
			{rect(0, 0, n/2, n), api.Point{X: n - 1, Y: 3 % n}, 1},
		} {
			distIs(t, k, c.r, c.cell, c.want)
		}
	}
}

// P403: Dist of a rectangle that is empty, or may not be, and of what is no cell.
func TestDistOfNone(t *testing.T) {
	for _, k := range someKs() {
		n := side(k)
		for _, r := range []window.Rect{
			{}, {0, 0, 0, 1}, {0, 0, 1, 0}, {n, n, 0, 0}, {n, 0, 0, 1}, {0, 0, n, 0}, {1, 0, n, 1}, {0, 1, 1, n}, {n, 0, 1, 1}, {0, n, 1, 1}, {-1, 0, 1, 1}, {0, -1, 1, 1}, {0, 0, -1, 1}, {0, 0, 1, -1},
		} {
			distIs(t, k, r, api.Point{}, -1)
		}
		for _, o := range append(wrongNumbers(), n, n+1, -n) {
			for _, c := range []api.Point{{X: o}, {Y: o}, {X: o, Y: o}, {X: o, Y: n - 1}} {
				distIs(t, k, rect(0, 0, n, n), c, -1)
				distIs(t, k, rect(n-1, 0, 1, 1), c, -1)
			}
		}
		for _, o := range wrongNumbers() {
			for _, r := range turned(rect(0, 0, n, n), o) {
				distIs(t, k, r, api.Point{}, -1)
			}
		}
	}
}

// The chapter of paths and this one speak of the same zones.
func TestOfIsCorner(t *testing.T) {
	x := torus.Torus{K: 16}
	for d := range 33 {
		p := api.Path{Depth: d, Bits: (1 << d) * 2 / 3}
		c, w, h := path.Corner(x, p)
		if r, e := window.Of(x, p); e != api.OK || r != rect(c.X, c.Y, w, h) {
			t.Errorf("Of(%v) = %v, %d", p, r, e)
		}
	}
}
