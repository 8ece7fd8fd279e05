package border_test

import (
	"math"
	"slices"
	"testing"

	"glebe/api"
	"glebe/border"
	"glebe/tiling"
	"glebe/torus"
)

// lengthIs: what Length, and so Beside, has to answer.
func lengthIs(t *testing.T, k int, p, q api.Path, want int) {
	t.Helper()
	x := torus.Torus{K: k}
	if n := border.Length(x, p, q); n != want {
		t.Errorf("K %d: Length(%v, %v) = %d, want %d", k, p, q, n, want)
	}
	if ok := border.Beside(x, p, q); ok != (want > 0) {
		t.Errorf("K %d: Beside(%v, %v) = %v", k, p, q, ok)
	}
}

// hasLength: Length and Beside are so, both ways.
func hasLength(t *testing.T, k int, p, q string, want int) {
	t.Helper()
	lengthIs(t, k, pathOf(p), pathOf(q), want)
	lengthIs(t, k, pathOf(q), pathOf(p), want)
}

// roundIs: what Round has to answer: the tiles at these places of the list.
func roundIs(t *testing.T, k int, l []tiling.Tile, p api.Path, places ...int) {
	t.Helper()
	var want []tiling.Tile
	for _, i := range places {
		want = append(want, l[i])
	}
	if got := border.Round(torus.Torus{K: k}, l, p); !slices.Equal(got, want) {
		t.Errorf("K %d: Round(%v, %v) = %v, want %v", k, l, p, got, want)
	}
}

func apartIs(t *testing.T, k int, p api.Path, c api.Point, want int) {
	t.Helper()
	if d := border.Apart(torus.Torus{K: k}, p, c); d != want {
		t.Errorf("K %d: Apart(%v, %v) = %d, want %d", k, p, c, d, want)
	}
}

// nearestIs: what Nearest has to answer: the tile at this place, so far.
func nearestIs(t *testing.T, k int, l []tiling.Tile, c api.Point, place, far int) {
	t.Helper()
	if x, d, ok := border.Nearest(torus.Torus{K: k}, l, c); !ok || x != l[place] || d != far {
		t.Errorf("K %d: Nearest(%v, %v) = %v, %d, %v, want %v, %d", k, l, c, x, d, ok, l[place], far)
	}
}

func noNearest(t *testing.T, k int, l []tiling.Tile, c api.Point) {
	t.Helper()
	if x, d, ok := border.Nearest(torus.Torus{K: k}, l, c); ok || d != 0 || x != (tiling.Tile{}) {
		t.Errorf("K %d: Nearest(%v, %v) = %v, %d, %v, want none", k, l, c, x, d, ok)
	}
}

// closerIs: what Closer has to answer: the tile at this place.
func closerIs(t *testing.T, k int, l []tiling.Tile, p api.Path, c api.Point, place int) {
	t.Helper()
	if x, ok := border.Closer(torus.Torus{K: k}, l, p, c); !ok || x != l[place] {
		t.Errorf("K %d: Closer(%v, %v, %v) = %v, %v, want %v", k, l, p, c, x, ok, l[place])
	}
}

func noCloser(t *testing.T, k int, l []tiling.Tile, p api.Path, c api.Point) {
	t.Helper()
	if x, ok := border.Closer(torus.Torus{K: k}, l, p, c); ok || x != (tiling.Tile{}) {
		t.Errorf("K %d: Closer(%v, %v, %v) = %v, %v, want none", k, l, p, c, x, ok)
	}
}

func connectedIs(t *testing.T, k int, l []tiling.Tile, want bool) {
	t.Helper()
	if ok := border.Connected(torus.Torus{K: k}, l); ok != want {
		t.Errorf("K %d: Connected(%v) = %v", k, l, ok)
	}
}

// P601: of a path that may not be of K.
func TestOfWrongPaths(t *testing.T) {
	for _, k := range []int{1, 2, 3, 9, api.MaxK} {
		l := tilesOf("0", "10", "11")
		for _, p := range wrongPaths(k) {
			for _, q := range append(wrongPaths(k), pathOf(""), pathOf("0"), pathOf("1"), pathOf("10"), pathOf(deep(2*k, "1")), pathOf(deep(2*k, "0"))) {
				lengthIs(t, k, p, q, 0)
				lengthIs(t, k, q, p, 0)
			}
			roundIs(t, k, l, p)
			for _, c := range append(noCells(k), cell(0, 0), cell(0, 1), cell(side(k)-1, side(k)-1)) {
				apartIs(t, k, p, c, -1)
				noCloser(t, k, l, p, c)
			}
		}
	}
}

// P601, P602: a tile whose path may not be is beside none, near to none, and not connected with any.
func TestTilesOfWrongPaths(t *testing.T) {
	for _, k := range []int{1, 2, 9, api.MaxK} {
		for i, p := range wrongPaths(k) {
			wrong := tiling.Tile{Path: p, Who: 100 + i}
			l := []tiling.Tile{wrong, tilesOf("0")[0], wrong, {Path: pathOf("1"), Who: 7}, wrong}
			roundIs(t, k, l, pathOf("0"), 3)
			roundIs(t, k, l, pathOf("1"), 1)
			nearestIs(t, k, l, cell(0, 0), 1, 0)
			nearestIs(t, k, l, cell(side(k)-1, 0), 3, 0)
			noNearest(t, k, []tiling.Tile{wrong, wrong}, cell(0, 0))
			closerIs(t, k, l, pathOf("0"), cell(side(k)/2, 0), 3)
			noCloser(t, k, []tiling.Tile{wrong}, pathOf("0"), cell(side(k)/2, 0))
			connectedIs(t, k, l, false)
			connectedIs(t, k, l[1:3], false)
			connectedIs(t, k, l[2:4], false)
			connectedIs(t, k, []tiling.Tile{wrong}, false)
		}
	}
}

// P601: of a torus whose K may not be, of which no path may be either.
func TestOfWrongTorus(t *testing.T) {
	l := tilesOf("0", "1")
	for _, k := range wrongKs() {
		for _, p := range append(wrongPaths(2), pathOf(""), pathOf("0"), pathOf("11")) {
			lengthIs(t, k, p, pathOf("0"), 0)
			lengthIs(t, k, pathOf("1"), p, 0)
			roundIs(t, k, l, p)
			roundIs(t, k, nil, p)
			for _, c := range append(noCells(2), cell(0, 0), cell(1, 0)) {
				apartIs(t, k, p, c, -1)
				noNearest(t, k, l, c)
				noNearest(t, k, nil, c)
				noCloser(t, k, l, p, c)
			}
		}
		connectedIs(t, k, l, false)
		connectedIs(t, k, l[:1], false)
		connectedIs(t, k, nil, true)
	}
}

// column: so many zones of one cell each, one behind the other in Y, each as the next one's neighbour, in a torus of k.
func column(k, n int) []tiling.Tile {
	var texts []string
	for y := range n {
		texts = append(texts, way(k, cell(0, y)))
	}
	return tilesOf(texts...)
}

// P601: of a list of MaxZones tiles, and of one more.
func TestLongLists(t *testing.T) {
	for _, k := range []int{7, 8, api.MaxK} {
		l := column(k, api.MaxZones+1)
		most, p, c := l[:api.MaxZones], pathOf(way(k, cell(1, 5))), cell(0, 5)
		roundIs(t, k, most, p, 5)
		nearestIs(t, k, most, c, 5, 0)
		closerIs(t, k, most, p, c, 5)
		connectedIs(t, k, most, true)
		roundIs(t, k, l, p)
		noNearest(t, k, l, c)
		noCloser(t, k, l, p, c)
		connectedIs(t, k, l, false)
		last := cell(0, api.MaxZones-1)
		nearestIs(t, k, most, last, api.MaxZones-1, 0)
		closerIs(t, k, most, l[api.MaxZones].Path, last, api.MaxZones-1)
		longer := slices.Repeat(l, 40)
		roundIs(t, k, longer, p)
		noNearest(t, k, longer, c)
		noCloser(t, k, longer, p, c)
		connectedIs(t, k, longer, false)
	}
	connectedIs(t, 3, slices.Repeat(tilesOf("0", "1"), api.MaxZones/2), true)
	connectedIs(t, 3, append(slices.Repeat(tilesOf("0", "1"), api.MaxZones/2), tilesOf("0")...), false)
}

// P602: in a torus of side 2, where zones are beside each other both ways round.
func TestOfSideTwo(t *testing.T) {
	hasLength(t, 1, "0", "1", 2)
	hasLength(t, 1, "00", "01", 1)
	hasLength(t, 1, "00", "10", 1)
	hasLength(t, 1, "01", "11", 1)
	hasLength(t, 1, "10", "11", 1)
	hasLength(t, 1, "00", "11", 0)
	hasLength(t, 1, "01", "10", 0)
	hasLength(t, 1, "0", "10", 1)
	hasLength(t, 1, "1", "01", 1)
	for _, text := range []string{"", "0", "1", "00", "01", "10", "11"} {
		hasLength(t, 1, "", text, 0)
		hasLength(t, 1, text, text, 0)
		hasLength(t, 1, text[:len(text)/2], text, 0)
	}
}

// P602: the whole torus, and zones that meet, have no border.
func TestOfMeeting(t *testing.T) {
	for k := 1; k <= api.MaxK; k++ {
		for _, text := range []string{"", "0", "1", "01", deep(2*k, "0"), deep(2*k, "1"), deep(2*k-1, "01"), deep(2*k, "110")} {
			hasLength(t, k, "", text, 0)
			for n := range len(text) + 1 {
				hasLength(t, k, text[:n], text, 0)
			}
		}
	}
}

// P602: halves and quarters of each torus: from side 4 on, they touch on both sides.
func TestOfHalves(t *testing.T) {
	for k := 2; k <= api.MaxK; k++ {
		n := side(k)
		hasLength(t, k, "0", "1", 2*n)
		hasLength(t, k, "00", "01", n)
		hasLength(t, k, "00", "10", n)
		hasLength(t, k, "01", "11", n)
		hasLength(t, k, "00", "11", 0)
		hasLength(t, k, "01", "10", 0)
		hasLength(t, k, "0", "10", n)
		hasLength(t, k, "0", "11", n)
	}
}

// P602: in a torus of side 8: along a whole side, a part of it, a corner alone, across the edge.
func TestLengths(t *testing.T) {
	for _, c := range []struct {
		p, q string
		want int
		why  string
	}{
		{"0000", "0010", 2, "a whole side, in X"},
		{"0000", "0001", 2, "a whole side, in Y"},
		{"000", "001", 4, "a whole side of unlike width and height"},
		{"000", "010", 4, "on both sides at once, in Y, higher than wide"},
		{"00", "100", 4, "a whole side of the one"},
		{"00", "1000", 2, "a part of the side"},
		{"00", "100000", 1, "a part, by a single cell"},
		{"00", "10000", 2, "a part, by a zone of a cell's width"},
		{"00", "10101", 2, "a part, by such a zone across the edge in X"},
		{"0000", "0011", 0, "a corner alone"},
		{"00", "1111", 0, "a corner alone, across both edges"},
		{"000000", "111111", 0, "a corner alone, of single cells across both edges"},
		{"0000", "1010", 2, "across the edge in X"},
		{"000000", "101010", 1, "single cells across the edge in X"},
		{"0000", "0101", 2, "across the edge in Y"},
		{"000000", "010101", 1, "single cells across the edge in Y"},
		{"0", "1", 16, "on both sides at once"},
		{"0", "10", 8, "on both sides at once, where the one is higher"},
		{"00", "01", 8, "on both sides at once, in Y"},
		{"010", "0111", 2, "wider than high"},
		{"0000", "0100", 0, "apart in Y"},
		{"0000", "1000", 0, "apart in X"},
		{"00000", "00100", 0, "apart by one row of cells"},
		{"000000", "001000", 0, "apart by one cell"},
	} {
		hasLength(t, 3, c.p, c.q, c.want)
		if n := length(3, c.p, c.q); n != c.want {
			t.Errorf("%s: %s and %s are counted %d, not %d", c.why, c.p, c.q, n, c.want)
		}
	}
}

// P602: zones of a Depth of 2 k and of 2 k - 1.
func TestOfDeepest(t *testing.T) {
	for k := 2; k <= api.MaxK; k++ {
		zero, one := deep(2*k, "0"), deep(2*k, "1")
		hasLength(t, k, zero, zero[1:]+"1", 1)
		hasLength(t, k, one, one[1:]+"0", 1)
		hasLength(t, k, zero, deep(2*k, "10"), 1)
		hasLength(t, k, zero, deep(2*k, "01"), 1)
		hasLength(t, k, zero, one, 0)
		hasLength(t, k, zero[1:], zero[2:]+"1", 2)
		hasLength(t, k, zero[1:], deep(2*k-1, "10"), 2)
		hasLength(t, k, zero[1:], one, 0)
		hasLength(t, k, zero, "1", 1)
		hasLength(t, k, zero, "01", 1)
		hasLength(t, k, one[1:], "0", 2)
		if k > 2 { // in a torus of side 4 these two fill a whole column
			hasLength(t, k, zero[1:], deep(2*k-1, "01"), 1)
		}
	}
	hasLength(t, 2, "000", "010", 2)
}

// P602: Round of lists: in the list's order, whatever that is; what meets p is not beside it.
func TestRound(t *testing.T) {
	for _, k := range []int{2, 3, api.MaxK} {
		roundIs(t, k, nil, pathOf("0"))
		roundIs(t, k, []tiling.Tile{}, pathOf("0"))
		roundIs(t, k, tilesOf("0"), pathOf("0"))
		roundIs(t, k, tilesOf("", "0", "1"), pathOf(""))
		roundIs(t, k, tilesOf("11", "00", "01", "10"), pathOf("00"), 2, 3)
		roundIs(t, k, tilesOf("10", "01", "00"), pathOf("00"), 0, 1)
		roundIs(t, k, tilesOf("1", "01", "0", "0000", "000", "1111"), pathOf("00"), 0, 1)
		roundIs(t, k, tilesOf("11", "0000", "10", "10", "001", "1"), pathOf("000"), 2, 3, 4, 5)
		roundIs(t, k, tilesOf("0111", "1", "10", "11", ""), pathOf("00"), 0, 1, 2)
	}
	roundIs(t, 2, tilesOf("1111", "1", "0111", "0011", "0101", "00", "0001", "0010", "1010"), pathOf("0000"), 1, 4, 6, 7, 8)
	roundIs(t, 1, tilesOf("11", "10", "1", "01", "0", "00"), pathOf("00"), 1, 2, 3)
}

// P602: tiles that are the same, and unlike numbers on the same path, all count.
func TestRoundOfSame(t *testing.T) {
	l := []tiling.Tile{{Path: pathOf("1"), Who: math.MinInt}, {Path: pathOf("1"), Who: 5}, {Path: pathOf("1"), Who: 5}}
	roundIs(t, 2, l, pathOf("0"), 0, 1, 2)
	nearestIs(t, 2, l, cell(0, 0), 0, 1)
	closerIs(t, 2, l, pathOf("0"), cell(2, 0), 0)
	connectedIs(t, 2, l, false)
	connectedIs(t, 2, append(l, tilesOf("0")...), true)
}

// P602: Apart of a cell in the zone, beside it, as far as it goes, and nearer the other way round.
func TestApart(t *testing.T) {
	for k := 2; k <= api.MaxK; k++ {
		n := side(k)
		for _, c := range []api.Point{cell(0, 0), cell(n/2-1, n/2-1), cell(0, n/2-1), cell(n/2-1, 0)} {
			apartIs(t, k, pathOf("00"), c, 0)
			apartIs(t, k, pathOf(""), c, 0)
			apartIs(t, k, pathOf(way(k, c)), c, 0)
		}
		apartIs(t, k, pathOf("00"), cell(n/2, 0), 1)
		apartIs(t, k, pathOf("00"), cell(n-1, 0), 1)
		apartIs(t, k, pathOf("00"), cell(0, n/2), 1)
		apartIs(t, k, pathOf("00"), cell(0, n-1), 1)
		apartIs(t, k, pathOf("00"), cell(n/2, n/2), 2)
		apartIs(t, k, pathOf("00"), cell(n-1, n-1), 2)
		apartIs(t, k, pathOf("00"), cell(n/2+n/4, n/2+n/4), n/4+n/4)
		apartIs(t, k, pathOf("00"), cell(n/2+n/4-1, n/2+n/4-1), n/4+n/4)
		zero := pathOf(deep(2*k, "0"))
		apartIs(t, k, zero, cell(n/2, n/2), n)
		apartIs(t, k, zero, cell(n/2+1, n/2), n-1)
		apartIs(t, k, zero, cell(n-1, n/2-1), n/2)
		apartIs(t, k, zero, cell(n-1, n-1), 2)
		apartIs(t, k, pathOf(deep(2*k, "1")), cell(0, 0), 2)
		apartIs(t, k, pathOf(deep(2*k-1, "1")), cell(0, 0), 2)
	}
	apartIs(t, 1, pathOf("0"), cell(1, 1), 1)
	apartIs(t, 1, pathOf("00"), cell(1, 1), 2)
	apartIs(t, 1, pathOf("11"), cell(1, 1), 0)
}

// P602: Apart, Nearest and Closer of no cell.
func TestOfNoCell(t *testing.T) {
	for _, k := range []int{1, 2, 9, api.MaxK} {
		for _, c := range noCells(k) {
			for _, text := range []string{"", "0", "1", "11", deep(2*k, "0"), deep(2*k, "1")} {
				apartIs(t, k, pathOf(text), c, -1)
				noCloser(t, k, tilesOf("0", "1"), pathOf(text), c)
			}
			noNearest(t, k, tilesOf("", "0", "1"), c)
			noNearest(t, k, nil, c)
		}
	}
}

// P602: Nearest: the first one of those that are as far, in either order.
func TestNearest(t *testing.T) {
	for _, k := range []int{2, 3, 8, api.MaxK} {
		n := side(k)
		noNearest(t, k, nil, cell(0, 0))
		noNearest(t, k, []tiling.Tile{}, cell(0, 0))
		nearestIs(t, k, tilesOf("11"), cell(0, 0), 0, 2)
		nearestIs(t, k, tilesOf("1", "00", "01"), cell(0, 0), 1, 0)
		nearestIs(t, k, tilesOf("01", "10"), cell(n-1, n-1), 0, 1)
		nearestIs(t, k, tilesOf("10", "01"), cell(n-1, n-1), 0, 1)
		nearestIs(t, k, tilesOf("00", "01", "10"), cell(n-1, n-1), 1, 1)
		nearestIs(t, k, tilesOf("00", "10", "01", "11"), cell(n-1, n-1), 3, 0)
		nearestIs(t, k, tilesOf("1", "0", "00", ""), cell(0, 0), 1, 0)
		nearestIs(t, k, tilesOf(deep(2*k, "1"), deep(2*k, "10"), deep(2*k, "0"), "0"), cell(0, 0), 2, 0)
		nearestIs(t, k, tilesOf(deep(2*k, "1"), deep(2*k, "10")), cell(0, 0), 1, 1)
	}
}

// P602: Closer: just of tiles beside p, just of those that are nearer than p, the first one of those that are as far.
func TestCloser(t *testing.T) {
	for _, k := range []int{2, 3, 8, api.MaxK} {
		n := side(k)
		last := cell(n-1, n-1)
		noCloser(t, k, nil, pathOf("00"), last)
		closerIs(t, k, tilesOf("01", "10"), pathOf("00"), last, 0)
		closerIs(t, k, tilesOf("10", "01"), pathOf("00"), last, 0)
		closerIs(t, k, tilesOf("11", "10", "01"), pathOf("00"), last, 1)
		closerIs(t, k, tilesOf("00", "11", "1", "01"), pathOf("00"), last, 2)
		closerIs(t, k, tilesOf("100", "101", "11"), pathOf("0"), cell(n/2, n-1), 2)
		noCloser(t, k, tilesOf("11"), pathOf("00"), last)
		noCloser(t, k, tilesOf("00", "0", ""), pathOf("00"), last)
		noCloser(t, k, tilesOf("01", "10", "11"), pathOf("00"), cell(0, 0))
		noCloser(t, k, tilesOf("01", "10", "11", "00"), pathOf("00"), cell(n/2-1, n/2-1))
		noCloser(t, k, tilesOf("0", "1"), pathOf(""), last)
		noCloser(t, k, tilesOf("01"), pathOf("00"), cell(n/2, 0))
		closerIs(t, k, tilesOf("01", "10"), pathOf("00"), cell(n/2, 0), 1)
	}
}

// P602: a tile beside p that is as far as p is not nearer.
func TestCloserOfAsFar(t *testing.T) {
	noCloser(t, 3, tilesOf("001000"), pathOf("0000"), cell(2, 1))
	noCloser(t, 3, tilesOf("001000", "0011"), pathOf("0000"), cell(2, 1))
	closerIs(t, 3, tilesOf("001000", "001001"), pathOf("0000"), cell(2, 1), 1)
}

// P602: Connected of none, of one, of two, and of some in parts.
func TestConnected(t *testing.T) {
	for _, k := range []int{2, 3, 8, api.MaxK} {
		connectedIs(t, k, nil, true)
		connectedIs(t, k, []tiling.Tile{}, true)
		for _, text := range []string{"", "0", "1", "11", deep(2*k, "0"), deep(2*k-1, "1")} {
			connectedIs(t, k, tilesOf(text), true)
			connectedIs(t, k, tilesOf(text, text), false)
			connectedIs(t, k, tilesOf("", text), false)
		}
		connectedIs(t, k, tilesOf("0", "1"), true)
		connectedIs(t, k, tilesOf("00", "11"), false)
		connectedIs(t, k, tilesOf("00", "11", "01"), true)
		connectedIs(t, k, tilesOf("00", "01", "11"), true)
		connectedIs(t, k, tilesOf("00", "01", "10", "11"), true)
		connectedIs(t, k, tilesOf("0000", "0001", "1110"), false)
		connectedIs(t, k, tilesOf(deep(2*k, "0"), deep(2*k, "1")), false)
		connectedIs(t, k, tilesOf(deep(2*k, "0"), deep(2*k, "1"), deep(2*k, "10")), true)
		connectedIs(t, k, tilesOf(deep(2*k, "0"), deep(2*k, "1"), deep(2*k, "01")), true)
	}
	connectedIs(t, 1, tilesOf("00", "11"), false)
	connectedIs(t, 1, tilesOf("00", "11", "10"), true)
}

// row: single cells from x on, so many, round the torus, in Y 3.
func row(k, x, n int) []tiling.Tile {
	var texts []string
	for i := range n {
		texts = append(texts, way(k, cell((x+i)%side(k), 3)))
	}
	return tilesOf(texts...)
}

// P602: a row of tiles whose ends meet round the torus: with one gap it holds together, with two just if these are one behind the other.
func TestConnectedRound(t *testing.T) {
	for _, k := range []int{2, 3, 4, 5, 6} {
		n := side(k)
		l := row(k, 0, n)
		connectedIs(t, k, l, true)
		for i := range l {
			one := slices.Delete(slices.Clone(l), i, i+1)
			connectedIs(t, k, one, true)
			for j := range i {
				connectedIs(t, k, slices.Delete(one, j, j+1), i-j == 1 || i-j == n-1)
				one = slices.Delete(slices.Clone(l), i, i+1)
			}
		}
	}
	for _, k := range []int{7, api.MaxK} {
		connectedIs(t, k, row(k, side(k)-30, 60), true)
		connectedIs(t, k, append(row(k, side(k)-30, 29), row(k, 0, 30)...), false)
	}
}

// The chapter's example.
func TestExample(t *testing.T) {
	hasLength(t, 1, "0", "1", 2)
}
