package border_test

import (
	"math"
	"math/rand"
	"slices"
	"testing"

	"glebe/api"
	"glebe/border"
	"glebe/path"
	"glebe/tiling"
	"glebe/torus"
)

// P602, P603: Length and Beside of all pairs of zones of small tori are what is counted, both ways the same.
func TestLengthOfSmallZones(t *testing.T) {
	for k := 1; k <= 4; k++ {
		all := allTexts(k)
		want := lengths(k, all)
		for i, p := range all {
			for j, q := range all {
				if want[i][j] != want[j][i] {
					t.Fatalf("K %d: of %s and %s are counted %d, and %d", k, p, q, want[i][j], want[j][i])
				}
				lengthIs(t, k, pathOf(p), pathOf(q), want[i][j])
			}
		}
	}
}

// P602: from side 4 on, where each cell is parted in so many by so many, each border is so many times as long.
func TestLengthOfGreaterTori(t *testing.T) {
	all := allTexts(2)
	want := lengths(2, all)
	for k := 3; k <= api.MaxK; k++ {
		for i, p := range all {
			for j, q := range all {
				lengthIs(t, k, pathOf(p), pathOf(q), want[i][j]*side(k-2))
			}
		}
	}
}

// closeBy: two drawn small zones of k that are at most some cells from each other.
func closeBy(r *rand.Rand, k int) (p, q string) {
	n := side(k)
	some := []int{0, 1, n/2 - 1, n / 2, n - 2, n - 1, r.Intn(n)}
	c := cell(some[r.Intn(len(some))], some[r.Intn(len(some))])
	o := cell(turned(k, c.X+r.Intn(7)-3), turned(k, c.Y+r.Intn(7)-3))
	return way(k, c)[:2*k-r.Intn(7)], way(k, o)[:2*k-r.Intn(7)]
}

// P602, P603: of small zones of great tori.
func TestLengthOfDeepZones(t *testing.T) {
	for k := 4; k <= api.MaxK; k++ {
		r := rand.New(rand.NewSource(int64(k)))
		beside := 0
		for range 2000 {
			p, q := closeBy(r, k)
			n := length(k, p, q)
			beside += min(n, 1)
			hasLength(t, k, p, q, n)
		}
		if beside < 200 {
			t.Errorf("K %d: just %d drawn zones are beside each other", k, beside)
		}
	}
}

// P603: of all pairs of drawn zones, great and small.
func TestBothWays(t *testing.T) {
	for k := 1; k <= api.MaxK; k++ {
		x, r := torus.Torus{K: k}, rand.New(rand.NewSource(int64(k)))
		for range 3000 {
			p := pathOf(way(k, cell(r.Intn(side(k)), r.Intn(side(k))))[:r.Intn(2*k+1)])
			q := pathOf(way(k, cell(r.Intn(side(k)), r.Intn(side(k))))[:r.Intn(2*k+1)])
			n, ok := border.Length(x, p, q), border.Beside(x, p, q)
			if n != border.Length(x, q, p) || ok != border.Beside(x, q, p) || ok != (n > 0) || n < 0 {
				t.Fatalf("K %d: %v and %v: %d and %d, %v and %v", k, p, q, n, border.Length(x, q, p), ok, border.Beside(x, q, p))
			}
		}
	}
}

// P602: Apart of all cells from all zones of small tori.
func TestApartOfSmallZones(t *testing.T) {
	for k := 1; k <= 3; k++ {
		for _, text := range allTexts(k) {
			for _, c := range cellsOf(k, "") {
				apartIs(t, k, pathOf(text), c, far(k, text, c))
			}
		}
	}
}

// P602: Apart of cells round small zones of great tori, and half the torus away.
func TestApartOfDeepZones(t *testing.T) {
	for k := 4; k <= api.MaxK; k++ {
		r := rand.New(rand.NewSource(int64(k)))
		n := side(k)
		for range 1000 {
			p, q := closeBy(r, k)
			c, _ := bounds(k, q)
			for _, o := range []api.Point{c, cell(turned(k, c.X-n/2), c.Y), cell(turned(k, c.X-n/2+1), turned(k, c.Y-n/2)), cell(r.Intn(n), r.Intn(n))} {
				apartIs(t, k, pathOf(p), o, far(k, p, o))
			}
		}
	}
}

// counted: Connected of zones whose borders are counted.
func counted(k int, texts []string) bool { return joined(lengths(k, texts)) }

// P602: Connected of all lists of at most three zones of a torus of side 2, and of side 4 of all pairs and many of three.
func TestConnectedOfSmallZones(t *testing.T) {
	for k := 1; k <= 2; k++ {
		all := allTexts(k)
		table := lengths(k, all)
		for a, p := range all {
			for b, q := range all {
				connectedIs(t, k, tilesOf(p, q), table[a][b] > 0)
				for c, s := range all {
					ab, bc, ac := table[a][b] > 0, table[b][c] > 0, table[a][c] > 0
					connectedIs(t, k, tilesOf(p, q, s), ab && bc || ab && ac || ac && bc)
				}
			}
		}
	}
}

// P602: Connected of drawn lists, whose zones may meet.
func TestConnectedOfDrawnLists(t *testing.T) {
	seen := map[bool]int{}
	for k := 1; k <= 4; k++ {
		r := rand.New(rand.NewSource(int64(k)))
		for range 1500 {
			l := someTexts(r, k, r.Intn(12))
			want := counted(k, l)
			seen[want]++
			connectedIs(t, k, tilesOf(l...), want)
		}
	}
	if seen[true] < 300 || seen[false] < 300 {
		t.Errorf("drawn: %v", seen)
	}
}

// reachedCells: how many cells of these zones one comes to from the first one's, by steps from cells to cells beside them.
func reachedCells(k int, texts []string) int {
	in := map[api.Point]int{}
	for _, text := range texts {
		for _, c := range cellsOf(k, text) {
			in[c] = 1
		}
	}
	waiting, n := cellsOf(k, texts[0])[:1], 0
	for len(waiting) > 0 {
		c := waiting[0]
		waiting = waiting[1:]
		if in[c] == 0 {
			continue
		}
		in[c] = 0
		n++
		waiting = append(waiting, around(k, c)...)
	}
	return n
}

// P602: Connected of parts of drawn whole tilings: one comes to all cells, from cell to cell.
func TestConnectedByCells(t *testing.T) {
	seen := map[bool]int{}
	for k := 1; k <= 4; k++ {
		r := rand.New(rand.NewSource(int64(k)))
		for range 400 {
			l := halved(r, k, 2+r.Intn(min(side(2*k), 24)-1))
			l = l[:1+r.Intn(len(l))]
			cells := 0
			for _, text := range l {
				cells += len(cellsOf(k, text))
			}
			want := reachedCells(k, l) == cells
			seen[want]++
			connectedIs(t, k, tilesOf(l...), want)
		}
	}
	if seen[true] < 200 || seen[false] < 200 {
		t.Errorf("drawn: %v", seen)
	}
}

// P602: Round, Nearest and Closer of drawn lists, whose zones may meet.
func TestDrawnLists(t *testing.T) {
	for k := 1; k <= 3; k++ {
		r := rand.New(rand.NewSource(int64(k)))
		for range 300 {
			texts := someTexts(r, k, r.Intn(9))
			if r.Intn(2) == 0 {
				texts = halved(r, k, 1+r.Intn(min(side(2*k), 16)))
			}
			p, c := someTexts(r, k, 1)[0], cellsOf(k, "")[r.Intn(side(2*k))]
			l := tilesOf(texts...)
			if got := border.Round(torus.Torus{K: k}, l, pathOf(p)); !slices.Equal(got, round(k, texts, p)) {
				t.Errorf("K %d: Round(%v, %s) = %v", k, texts, p, got)
			}
			if i := nearest(k, texts, c); i < 0 {
				noNearest(t, k, l, c)
			} else {
				nearestIs(t, k, l, c, i, far(k, texts[i], c))
			}
			if i := closer(k, texts, p, c); i < 0 {
				noCloser(t, k, l, pathOf(p), c)
			} else {
				closerIs(t, k, l, pathOf(p), c, i)
			}
		}
	}
}

// isCloser: from p's tile there is a way on to the cell, to a tile beside it that is nearer.
func isCloser(t *testing.T, k int, l []tiling.Tile, p api.Path, c api.Point) {
	t.Helper()
	x := torus.Torus{K: k}
	y, ok := border.Closer(x, l, p, c)
	if !ok || !border.Beside(x, p, y.Path) || border.Apart(x, y.Path, c) >= border.Apart(x, p, c) {
		t.Fatalf("K %d, of %v: Closer(%v, %v) = %v, %v", k, l, p, c, y, ok)
	}
}

// P604: small whole tilings are Connected, and from each tile there is a Closer one to each cell that is not in its zone, and to none of its own cells.
func TestWhole(t *testing.T) {
	for k := 1; k <= 4; k++ {
		r := rand.New(rand.NewSource(int64(k)))
		for range 30 {
			l := tilesOf(halved(r, k, 1+r.Intn(min(side(2*k), 40)))...)
			connectedIs(t, k, l, true)
			for _, y := range l {
				for _, c := range cellsOf(k, "") {
					if border.Apart(torus.Torus{K: k}, y.Path, c) > 0 {
						isCloser(t, k, l, y.Path, c)
					} else {
						noCloser(t, k, l, y.Path, c)
					}
				}
			}
		}
	}
}

// P604: whole tilings of MaxZones tiles of great tori, to drawn cells, and to such as are at the tiles' corners.
func TestWholeOfGreatTori(t *testing.T) {
	for k := 3; k <= api.MaxK; k++ {
		r := rand.New(rand.NewSource(int64(k)))
		for range 4 {
			texts := halved(r, k, api.MaxZones)
			l := tilesOf(texts...)
			connectedIs(t, k, l, true)
			for i, y := range l {
				for _, other := range texts[:20] {
					least, most := bounds(k, other)
					for _, c := range []api.Point{least, most, cell(least.X, most.Y), cell(r.Intn(side(k)), r.Intn(side(k)))} {
						if !above(texts[i], way(k, c)) {
							isCloser(t, k, l, y.Path, c)
						}
					}
				}
			}
		}
	}
}

// P604: so steps to Closer ones lead to the tile that has the cell.
func TestSteps(t *testing.T) {
	for _, k := range []int{3, 8, api.MaxK} {
		r := rand.New(rand.NewSource(int64(k)))
		x := torus.Torus{K: k}
		l := tilesOf(halved(r, k, api.MaxZones)...)
		for range 200 {
			p, c := l[r.Intn(len(l))].Path, cell(r.Intn(side(k)), r.Intn(side(k)))
			for range api.MaxZones {
				if y, ok := border.Closer(x, l, p, c); ok {
					p = y.Path
				}
			}
			if y, d, ok := border.Nearest(x, l, c); !ok || d != 0 || y.Path != p {
				t.Fatalf("K %d: steps to %v end at %v, not at %v", k, c, p, y)
			}
		}
	}
}

// familyHolds: a child and its sibling are beside each other; what is beside a child is beside the parent, or meets it.
func familyHolds(t *testing.T, k int, parent, q api.Path) {
	t.Helper()
	x := torus.Torus{K: k}
	for bit := range 2 {
		child, e := path.Child(parent, bit)
		sibling, ok := path.Sibling(child)
		if e != api.OK || !ok || !border.Beside(x, child, sibling) {
			t.Fatalf("K %d: %v and %v are not beside each other", k, child, sibling)
		}
		if border.Beside(x, q, child) && !path.Meet(q, parent) && !border.Beside(x, q, parent) {
			t.Fatalf("K %d: %v is beside %v, not beside %v", k, q, child, parent)
		}
	}
}

// P605: of all small zones.
func TestFamilies(t *testing.T) {
	for k := 1; k <= 3; k++ {
		all := allTexts(k)
		for _, parent := range all {
			if len(parent) == 2*k {
				continue
			}
			for _, q := range all {
				familyHolds(t, k, pathOf(parent), pathOf(q))
			}
		}
	}
}

// P605: of drawn ones of great tori.
func TestFamiliesOfGreatTori(t *testing.T) {
	for k := 4; k <= api.MaxK; k++ {
		r := rand.New(rand.NewSource(int64(k)))
		for range 1000 {
			p, q := closeBy(r, k)
			familyHolds(t, k, pathOf(p[:len(p)-1]), pathOf(q))
			familyHolds(t, k, pathOf(p[:r.Intn(len(p))]), pathOf(q[:r.Intn(len(q))]))
		}
	}
}

// P601: what is handed in, and the room behind it, is not changed, and what is answered is apart from it and from another answer.
func TestApartFromLists(t *testing.T) {
	x := torus.Torus{K: 2}
	room := tilesOf("10", "01", "11", "00", "0", "1")
	was := slices.Clone(room)
	l := room[:4]
	first, second := border.Round(x, l, pathOf("00")), border.Round(x, l, pathOf("00"))
	want := tilesOf("10", "01")
	for i := range first[:cap(first)] {
		first[:cap(first)][i] = tiling.Tile{Path: pathOf("111"), Who: 77}
	}
	if !slices.Equal(second, want) || !slices.Equal(room, was) || !slices.Equal(border.Round(x, l, pathOf("00")), want) {
		t.Errorf("behind a change of what Round has answered: %v, of %v", second, room)
	}
	border.Nearest(x, l, cell(3, 3))
	border.Closer(x, l, pathOf("00"), cell(3, 3))
	border.Connected(x, l)
	if !slices.Equal(room, was) {
		t.Errorf("what was handed in is now %v", room)
	}
	for i := range room {
		room[i] = tiling.Tile{Path: pathOf("111"), Who: 66}
	}
	if !slices.Equal(second, want) {
		t.Errorf("behind a change of what was handed in: %v", second)
	}
}

// anything: numbers of all kinds.
func anything() []int {
	return []int{math.MinInt, math.MinInt + 1, -1 << 32, -1, 0, 1, 2, 3, 15, 16, 17, 31, 32, 33, 63, 64, 1 << 32, math.MaxInt - 1, math.MaxInt}
}

// P7: there is an answer, whatever is asked.
func TestAnything(t *testing.T) {
	for _, k := range anything() {
		x := torus.Torus{K: k}
		for _, depth := range anything() {
			for _, bits := range anything() {
				p, q, c := api.Path{Depth: depth, Bits: bits}, api.Path{Depth: 2, Bits: 1}, api.Point{X: bits, Y: depth}
				l := []tiling.Tile{{Path: p, Who: bits}, {Path: q, Who: depth}}
				ok := path.Right(k, p) && path.Right(k, q)
				if n := border.Length(x, p, q); n < 0 || n > 0 && !ok || border.Beside(x, q, p) != (n > 0) {
					t.Fatalf("K %d: Length(%v, %v) = %d", k, p, q, n)
				}
				if d := border.Apart(x, p, c); (d >= 0) != (path.Right(k, p) && x.Has(c)) {
					t.Fatalf("K %d: Apart(%v, %v) = %d", k, p, c, d)
				}
				y, d, some := border.Nearest(x, l, c)
				if some != x.Has(c) || !some && (d != 0 || y != tiling.Tile{}) {
					t.Fatalf("K %d: Nearest(%v, %v) = %v, %d, %v", k, l, c, y, d, some)
				}
				if len(border.Round(x, l, p)) > 1 || border.Connected(x, l) != border.Beside(x, p, q) {
					t.Fatalf("K %d: Round(%v, %v), or Connected", k, l, p)
				}
				if y, some := border.Closer(x, l, p, c); some && y != l[1] || !some && y != (tiling.Tile{}) {
					t.Fatalf("K %d: Closer(%v, %v, %v) = %v", k, l, p, c, y)
				}
			}
		}
	}
}

// told: all that is answered of a list.
func told(k int, l []tiling.Tile, p api.Path, c api.Point) ([]tiling.Tile, [3]bool, int) {
	x := torus.Torus{K: k}
	a, d, some := border.Nearest(x, l, c)
	b, ok := border.Closer(x, l, p, c)
	return append(border.Round(x, l, p), a, b), [3]bool{some, ok, border.Connected(x, l)}, d
}

// P8: the same lists have the same answers, as often as they are asked for.
func TestAgain(t *testing.T) {
	for _, k := range []int{2, 4, api.MaxK} {
		r := rand.New(rand.NewSource(int64(k)))
		for range 20 {
			l := tilesOf(halved(r, k, 1+r.Intn(min(side(2*k), api.MaxZones)))...)
			p, c := l[0].Path, cell(r.Intn(side(k)), r.Intn(side(k)))
			tiles, oks, d := told(k, l, p, c)
			for range 5 {
				if again, others, n := told(k, slices.Clone(l), p, c); !slices.Equal(again, tiles) || others != oks || n != d {
					t.Fatalf("K %d, of %v: %v, then %v", k, l, tiles, again)
				}
			}
		}
	}
}
