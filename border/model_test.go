package border_test

import (
	"math"
	"math/rand"
	"slices"
	"strings"

	"glebe/api"
	"glebe/tiling"
)

// In the model a path is the text of its halves, "" the whole torus, and a zone is the list of its cells; a cell is in each zone whose halves are the first ones on the way to it. Cells are beside each other by a step up or down that goes round. All that a test asks for is counted from these, as the chapter's words say.

// pathOf: the first half is the highest of so many bits.
func pathOf(text string) api.Path {
	p := api.Path{Depth: len(text)}
	for _, c := range text {
		p.Bits = 2*p.Bits + int(c-'0')
	}
	return p
}

// tilesOf: of texts, each with its place as its number.
func tilesOf(texts ...string) []tiling.Tile {
	var l []tiling.Tile
	for i, text := range texts {
		l = append(l, tiling.Tile{Path: pathOf(text), Who: i})
	}
	return l
}

// side: of k, from 1 to MaxK.
func side(k int) int {
	n := 1
	for range k {
		n *= 2
	}
	return n
}

// cell: short for tables.
func cell(x, y int) api.Point { return api.Point{X: x, Y: y} }

// turned: n by one round more or less, so that it is a number of the side again.
func turned(k, n int) int { return (n + side(k)) % side(k) }

// way: to the single cell, by halving the side: X and Y in turns.
func way(k int, c api.Point) string {
	var halves []byte
	for half := side(k) / 2; half >= 1; half /= 2 {
		halves = append(halves, byte('0'+c.X/half%2), byte('0'+c.Y/half%2))
	}
	return string(halves)
}

func above(p, q string) bool { return strings.HasPrefix(q, p) }

func meet(p, q string) bool { return above(p, q) || above(q, p) }

// bounds: the least and the greatest number of the zone's cells in X, and in Y, by halving the side.
func bounds(k int, text string) (least, most api.Point) {
	size, from := [2]int{side(k), side(k)}, [2]int{}
	for i, c := range text {
		size[i%2] /= 2
		if c == '1' {
			from[i%2] += size[i%2]
		}
	}
	return cell(from[0], from[1]), cell(from[0]+size[0]-1, from[1]+size[1]-1)
}

// cellsOf: of a zone that has not too many to be told.
func cellsOf(k int, text string) []api.Point {
	var l []api.Point
	least, most := bounds(k, text)
	for y := least.Y; y <= most.Y; y++ {
		for x := least.X; x <= most.X; x++ {
			l = append(l, cell(x, y))
		}
	}
	return l
}

// around: the cells that are one step from the cell; in a torus of side 2 both ways round lead to the same one.
func around(k int, c api.Point) []api.Point {
	var l []api.Point
	for _, d := range []int{-1, 1} {
		for _, o := range []api.Point{cell(turned(k, c.X+d), c.Y), cell(c.X, turned(k, c.Y+d))} {
			if !slices.Contains(l, o) {
				l = append(l, o)
			}
		}
	}
	return l
}

// length: how many pairs of cells of both zones are one step from each other; none, if they meet.
func length(k int, p, q string) int {
	if meet(p, q) {
		return 0
	}
	n := 0
	for _, c := range cellsOf(k, p) {
		for _, o := range around(k, c) {
			if above(q, way(k, o)) {
				n++
			}
		}
	}
	return n
}

// lengths: of all pairs of these zones.
func lengths(k int, texts []string) [][]int {
	l := make([][]int, len(texts))
	for i, p := range texts {
		for _, q := range texts {
			l[i] = append(l[i], length(k, p, q))
		}
	}
	return l
}

// steps: from m to n, up or down, whichever is less.
func steps(k, m, n int) int {
	up := (n - m + side(k)) % side(k)
	return min(up, side(k)-up)
}

// far: how far the cell is from the nearest cell of the zone.
func far(k int, text string, c api.Point) int {
	least := math.MaxInt
	for _, o := range cellsOf(k, text) {
		least = min(least, steps(k, c.X, o.X)+steps(k, c.Y, o.Y))
	}
	return least
}

// joined: is there a way from the first one to each other one, where so long borders are between them? Any two with a third one between come to be beside, till all pairs are tried.
func joined(borders [][]int) bool {
	to := make([]map[int]int, len(borders))
	for i, row := range borders {
		to[i] = map[int]int{i: 1}
		for j, n := range row {
			if n > 0 {
				to[i][j] = 1
			}
		}
	}
	for between := range to {
		for i := range to {
			if to[i][between] == 0 {
				continue
			}
			for j := range to[between] {
				to[i][j] = 1
			}
		}
	}
	return len(to) == 0 || len(to[0]) == len(to)
}

// round: of which of the zones p is beside.
func round(k int, texts []string, p string) []tiling.Tile {
	var l []tiling.Tile
	for i, x := range tilesOf(texts...) {
		if length(k, p, texts[i]) > 0 {
			l = append(l, x)
		}
	}
	return l
}

// nearest: the place of the first one that is least far; -1 of none.
func nearest(k int, texts []string, c api.Point) int {
	best := -1
	for i, text := range texts {
		if best < 0 || far(k, text, c) < far(k, texts[best], c) {
			best = i
		}
	}
	return best
}

// closer: the place of the first one that is least far of those that are beside p and nearer; -1 without such.
func closer(k int, texts []string, p string, c api.Point) int {
	best := -1
	for i, text := range texts {
		if length(k, p, text) == 0 || far(k, text, c) >= far(k, p, c) {
			continue
		}
		if best < 0 || far(k, text, c) < far(k, texts[best], c) {
			best = i
		}
	}
	return best
}

// allTexts: of all zones of k.
func allTexts(k int) []string {
	l := []string{""}
	for i := 0; len(l[i]) < 2*k; i++ {
		l = append(l, l[i]+"0", l[i]+"1")
	}
	return l
}

// someTexts: so many drawn ones of k.
func someTexts(r *rand.Rand, k, n int) []string {
	all := allTexts(k)
	var l []string
	for range n {
		l = append(l, all[r.Intn(len(all))])
	}
	return l
}

// halved: a drawn whole tiling of so many tiles, in a drawn order.
func halved(r *rand.Rand, k, n int) []string {
	l := []string{""}
	for len(l) < n {
		i := r.Intn(len(l))
		if len(l[i]) < 2*k {
			l = append(l, l[i]+"1")
			l[i] += "0"
		}
	}
	r.Shuffle(len(l), func(i, j int) { l[i], l[j] = l[j], l[i] })
	return l
}

// deep: a text of so many halves, these over and over.
func deep(n int, halves string) string {
	text := ""
	for i := range n {
		text += halves[i%len(halves) : i%len(halves)+1]
	}
	return text
}

// noCells: points that are none of k's.
func noCells(k int) []api.Point {
	var l []api.Point
	n := side(k)
	for _, wrong := range []int{-1, -n, math.MinInt, n, n + 1, 2 * n, 1 << 32, math.MaxInt} {
		l = append(l, cell(wrong, 0), cell(0, wrong), cell(wrong, wrong), cell(n-1, wrong))
	}
	return l
}

// wrongPaths: none that may be of k.
func wrongPaths(k int) []api.Path {
	return []api.Path{
		{Depth: -1}, {Depth: 2*k + 1}, {Depth: 2*k + 2}, {Depth: 2*api.MaxK + 1}, {Depth: 64}, {Depth: math.MinInt}, {Depth: math.MaxInt},
		{Bits: 1}, {Bits: -1}, {Depth: -1, Bits: -1}, {Depth: 1, Bits: 2}, {Depth: 1, Bits: 3}, {Depth: 1, Bits: -1}, {Depth: 2, Bits: 4},
		{Depth: 2*k - 1, Bits: 1 << (2*k - 1)}, {Depth: 2 * k, Bits: 1 << (2 * k)}, {Depth: 2 * k, Bits: -1},
		{Depth: 2*k + 1, Bits: 1<<(2*k+1) - 1}, {Depth: 2, Bits: math.MinInt}, {Depth: 2, Bits: math.MaxInt},
	}
}

// wrongKs: of which there is no torus.
func wrongKs() []int {
	return []int{0, -1, -2, -16, math.MinInt, math.MinInt + 1, api.MaxK + 1, api.MaxK + 2, 32, 63, 64, 65, 1 << 32, math.MaxInt - 1, math.MaxInt}
}
