package tiling_test

import (
	"math"
	"slices"
	"strings"
	"testing"

	"glebe/api"
	"glebe/tiling"
)

// In the model a path is the text of its halves, "" the whole torus, and a tiling a plain list of such texts with numbers. One path is above another one, if that one's text begins with its own, and the order of paths is that of their texts. All that a test asks for is looked up in that list, as the chapter's words say.

// spot: a tile of the model.
type spot struct {
	text string
	who  int
}

// plain: a tiling of the model.
type plain struct {
	k int
	l []spot
}

// pathOf: the first half is the highest of so many bits.
func pathOf(text string) api.Path {
	p := api.Path{Depth: len(text)}
	for _, c := range text {
		p.Bits = 2*p.Bits + int(c-'0')
	}
	return p
}

// textOf: of a path that may be at all.
func textOf(p api.Path) string {
	text := ""
	for b := p.Bits; len(text) < p.Depth; b /= 2 {
		text = string(rune('0'+b%2)) + text
	}
	return text
}

// tile: of a text and a number.
func tile(text string, who int) tiling.Tile { return tiling.Tile{Path: pathOf(text), Who: who} }

// tiles: of spots.
func tiles(l []spot) []tiling.Tile {
	var all []tiling.Tile
	for _, s := range l {
		all = append(all, tile(s.text, s.who))
	}
	return all
}

// pathsOf: of texts.
func pathsOf(texts []string) []api.Path {
	var all []api.Path
	for _, text := range texts {
		all = append(all, pathOf(text))
	}
	return all
}

func above(p, q string) bool { return strings.HasPrefix(q, p) }

func meet(p, q string) bool { return above(p, q) || above(q, p) }

// allTexts: of at most so many halves, in the order of paths.
func allTexts(depth int) []string {
	l := []string{""}
	for i := 0; len(l[i]) < depth; i++ {
		l = append(l, l[i]+"0", l[i]+"1")
	}
	slices.Sort(l)
	return l
}

// copyOf: apart.
func (m *plain) copyOf() *plain { return &plain{k: m.k, l: slices.Clone(m.l)} }

// place: where in the list the path is; -1, if it is not there.
func (m *plain) place(p string) int {
	return slices.IndexFunc(m.l, func(s spot) bool { return s.text == p })
}

// met: does it meet one that is there?
func (m *plain) met(p string) bool {
	return slices.ContainsFunc(m.l, func(s spot) bool { return meet(s.text, p) })
}

// right: may it be of k?
func (m *plain) right(p string) bool { return len(p) <= 2*m.k }

func (m *plain) full() bool { return len(m.l) >= api.MaxZones }

func (m *plain) add(p string, who int) api.Errno {
	switch {
	case !m.right(p):
		return api.ErrArg
	case m.met(p):
		return api.ErrMeet
	case m.full():
		return api.ErrFull
	}
	m.l = append(m.l, spot{p, who})
	return api.OK
}

func (m *plain) drop(p string) api.Errno {
	i := m.place(p)
	if i < 0 {
		return api.ErrNone
	}
	m.l = slices.Delete(m.l, i, i+1)
	return api.OK
}

func (m *plain) split(p string, who int) api.Errno {
	i := m.place(p)
	switch {
	case i < 0:
		return api.ErrNone
	case len(p) == 2*m.k:
		return api.ErrCell
	case m.full():
		return api.ErrFull
	}
	m.l[i].text = p + "0"
	m.l = append(m.l, spot{p + "1", who})
	return api.OK
}

func (m *plain) merge(p string) api.Errno {
	lower, upper := m.place(p+"0"), m.place(p+"1")
	if lower < 0 || upper < 0 {
		return api.ErrNone
	}
	m.l[lower].text = p
	m.l = slices.Delete(m.l, upper, upper+1)
	return api.OK
}

func (m *plain) give(p string, who int) api.Errno {
	i := m.place(p)
	if i < 0 {
		return api.ErrNone
	}
	m.l[i].who = who
	return api.OK
}

// under: those of which p is above, in the order of paths.
func (m *plain) under(p string) []spot {
	var l []spot
	for _, s := range m.l {
		if above(p, s.text) {
			l = append(l, s)
		}
	}
	slices.SortFunc(l, func(a, b spot) int { return strings.Compare(a.text, b.text) })
	return l
}

// isGap: it meets none, and is the shortest such one: with one half less it would meet some, or be none.
func (m *plain) isGap(p string) bool {
	return !m.met(p) && (p == "" || m.met(p[:len(p)-1]))
}

// near: all paths of a small torus; of a greater one the whole torus, and what is beside each path on the way to a tile. A gap meets no tile, but with one half less it would; so none is elsewhere.
func (m *plain) near() []string {
	if m.k <= 2 {
		return allTexts(2 * m.k)
	}
	l := []string{""}
	for _, s := range m.l {
		for i, c := range s.text {
			l = append(l, s.text[:i]+string('0'+'1'-c))
		}
	}
	slices.Sort(l)
	return slices.Compact(l)
}

// gaps: the shortest paths that meet no tile, in order.
func (m *plain) gaps() []string {
	return slices.DeleteFunc(m.near(), func(p string) bool { return !m.isGap(p) })
}

// deepest: of the lower ones whose other one is a tile too the first of the greatest depth, and so its parent.
func (m *plain) deepest() (string, bool) {
	best, some := "", false
	for _, s := range m.under("") {
		parent, lower := strings.CutSuffix(s.text, "0")
		if lower && m.place(parent+"1") >= 0 && (!some || len(parent) > len(best)) {
			best, some = parent, true
		}
	}
	return best, some
}

// cellText: the way to the single cell, by halving the side: X and Y in turns.
func cellText(k int, c api.Point) string {
	var halves []byte
	for half := side(k) / 2; half >= 1; half /= 2 {
		halves = append(halves, byte('0'+c.X/half%2), byte('0'+c.Y/half%2))
	}
	return string(halves)
}

// find: the tile above the cell.
func (m *plain) find(c api.Point) (tiling.Tile, bool) {
	way := cellText(m.k, c)
	for _, s := range m.l {
		if above(s.text, way) {
			return tile(s.text, s.who), true
		}
	}
	return tiling.Tile{}, false
}

// side: of k, from 1 to MaxK.
func side(k int) int {
	n := 1
	for range k {
		n *= 2
	}
	return n
}

// allCells: of a small torus.
func allCells(k int) []api.Point {
	var l []api.Point
	for y := range side(k) {
		for x := range side(k) {
			l = append(l, api.Point{X: x, Y: y})
		}
	}
	return l
}

// corners: the least and the greatest cell of the zone, by halving the side.
func corners(k int, text string) []api.Point {
	span := [2]int{side(k), side(k)}
	from := [2]int{}
	for i, c := range text {
		span[i%2] /= 2
		if c == '1' {
			from[i%2] += span[i%2]
		}
	}
	return []api.Point{{X: from[0], Y: from[1]}, {X: from[0] + span[0] - 1, Y: from[1] + span[1] - 1}}
}

// someCells: all of a small torus; of a greater one the corners of all tiles and gaps.
func (m *plain) someCells() []api.Point {
	if m.k <= 2 {
		return allCells(m.k)
	}
	var l []api.Point
	for _, s := range m.l {
		l = append(l, corners(m.k, s.text)...)
	}
	for _, g := range m.gaps() {
		l = append(l, corners(m.k, g)...)
	}
	return l
}

// someTexts: all of a small torus; of a greater one each tile, and what is above, beside and below it.
func (m *plain) someTexts() []string {
	if m.k <= 2 {
		return allTexts(2 * m.k)
	}
	l := m.gaps()
	for _, s := range m.l {
		n := len(s.text)
		l = append(l, s.text, s.text+"0", s.text+"1", s.text[:n/2], s.text[:max(0, n-1)])
		if n > 0 {
			l = append(l, s.text[:n-1]+"0", s.text[:n-1]+"1")
		}
	}
	slices.Sort(l)
	return slices.Compact(l)
}

// noCells: points that are none of k's.
func noCells(k int) []api.Point {
	var l []api.Point
	n := side(k)
	for _, wrong := range []int{-1, -n, math.MinInt, n, n + 1, 2 * n, 1 << 32, math.MaxInt} {
		l = append(l, api.Point{X: wrong, Y: 0}, api.Point{X: 0, Y: wrong}, api.Point{X: wrong, Y: wrong}, api.Point{X: n - 1, Y: wrong})
	}
	return l
}

// wrongPaths: none that may be of k.
func wrongPaths(k int) []api.Path {
	return []api.Path{
		{Depth: -1}, {Depth: 2*k + 1}, {Depth: 2*k + 2}, {Depth: 2*api.MaxK + 1}, {Depth: 64}, {Depth: math.MinInt}, {Depth: math.MaxInt},
		{Bits: 1}, {Bits: -1}, {Depth: -1, Bits: -1}, {Depth: 1, Bits: 2}, {Depth: 1, Bits: 3}, {Depth: 1, Bits: -1}, {Depth: 2, Bits: 4},
		{Depth: 2*k - 1, Bits: 1 << (2*k - 1)}, {Depth: 2 * k, Bits: 1 << (2 * k)}, {Depth: 2 * k, Bits: -1},
		{Depth: 2*k + 1, Bits: 1<<(2*k+1) - 1}, {Depth: 2, Bits: math.MinInt}, {Depth: 2, Bits: math.MaxInt},
	}
}

// wrongKs: of which there is no tiling.
func wrongKs() []int {
	return []int{0, -1, -2, -16, math.MinInt, math.MinInt + 1, api.MaxK + 1, api.MaxK + 2, 32, 63, 64, 65, 1 << 32, math.MaxInt - 1, math.MaxInt}
}

// someWhos: numbers of tiles: any one may be.
func someWhos() []int {
	return []int{0, 1, -1, 7, api.MaxNodes, api.MaxZones + 1, -1 << 40, math.MinInt, math.MaxInt}
}

// made: a tiling of these tiles, and its model.
func made(t *testing.T, k int, l ...spot) (*tiling.Tiling, *plain) {
	t.Helper()
	x, e := tiling.New(k, tiles(l)...)
	if e != api.OK || x == nil {
		t.Fatalf("New(%d, %v) = %v, %d", k, l, x, e)
	}
	return x, &plain{k: k, l: slices.Clone(l)}
}

// same: what the tiling tells is what is in the list.
func same(t *testing.T, x *tiling.Tiling, m *plain) {
	t.Helper()
	if l, want := x.List(), tiles(m.under("")); !slices.Equal(l, want) {
		t.Fatalf("K %d: List() = %v, want %v", m.k, l, want)
	}
	gaps := pathsOf(m.gaps())
	if l := x.Gaps(); !slices.Equal(l, gaps) {
		t.Fatalf("K %d, of %v: Gaps() = %v, want %v", m.k, m.l, l, gaps)
	}
	if x.Whole() != (len(gaps) == 0) {
		t.Fatalf("K %d, of %v: Whole() = %v", m.k, m.l, x.Whole())
	}
	want, some := m.deepest()
	if p, ok := x.Deepest(); p != pathOf(want) || ok != some {
		t.Fatalf("K %d, of %v: Deepest() = %v, %v, want %v, %v", m.k, m.l, p, ok, want, some)
	}
	for _, p := range m.someTexts() {
		if l, want := x.Under(pathOf(p)), tiles(m.under(p)); !slices.Equal(l, want) {
			t.Fatalf("K %d, of %v: Under(%q) = %v, want %v", m.k, m.l, p, l, want)
		}
	}
	for _, c := range m.someCells() {
		want, some := m.find(c)
		if s, ok := x.Find(c); s != want || ok != some {
			t.Fatalf("K %d, of %v: Find(%v) = %v, %v, want %v, %v", m.k, m.l, c, s, ok, want, some)
		}
	}
}

// stair: so many tiles, which are the whole torus: along the way that these halves, over and over, lead, what is beside each of its paths, and its last one.
func stair(n int, halves string) []spot {
	var l []spot
	way := ""
	for i := range n - 1 {
		half := rune(halves[i%len(halves)])
		l = append(l, spot{way + string('0'+'1'-half), i})
		way += string(half)
	}
	return append(l, spot{way, n - 1})
}

// even: so many tiles, which are the whole torus, and of which none is more than one half deeper than another one.
func even(n int) []spot {
	l := []spot{{"", 0}}
	for i := 1; i < n; i++ {
		s := l[0]
		l = append(l[1:], spot{s.text + "0", s.who}, spot{s.text + "1", i})
	}
	return l
}
