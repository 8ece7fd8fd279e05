package atlas_test

import (
	"cmp"
	"math"
	"reflect"
	"slices"
	"strings"
	"testing"

	"glebe/api"
	"glebe/atlas"
	"glebe/message"
	"glebe/tiling"
)

// In the model a path is the text of its halves, "" the whole torus, and an atlas a plain list of zones. Two paths meet, if the text of one begins with that of the other one, and the order of paths is that of their texts. All that a test asks for is looked up in that list, as the chapter's words say.

const (
	nodes     = 8
	lastEpoch = 1099511627776
	mostZones = 64
	deepest   = 32
)

// plain: an atlas of the model.
type plain struct {
	k int
	l []message.Zone
}

// pathOf: the first half is the highest of so many bits.
func pathOf(text string) api.Path {
	p := api.Path{Depth: len(text)}
	for _, c := range text {
		p.Bits = 2*p.Bits + int(c-'0')
	}
	return p
}

// textOf: of a path that may be at all.
func textOf(p api.Path) string {
	text := ""
	for b := p.Bits; len(text) < p.Depth; b /= 2 {
		text = string(rune('0'+b%2)) + text
	}
	return text
}

// zone: of a text, an Epoch, a Holder and its heirs.
func zone(text string, epoch, holder int, chain ...int) message.Zone {
	return message.Zone{Path: pathOf(text), Epoch: epoch, Holder: holder, Chain: chain}
}

func between(n, least, most int) bool { return least <= n && n <= most }

// pathIs: may it be, with so many halves at most?
func pathIs(p api.Path, most int) bool {
	return between(p.Depth, 0, most) && p.Bits >= 0 && p.Bits>>p.Depth == 0
}

// zoneIs: may the zone be?
func zoneIs(z message.Zone) bool {
	all := append(slices.Clone(z.Chain), z.Holder)
	for i, n := range all {
		if !between(n, 0, nodes-1) || slices.Index(all, n) != i {
			return false
		}
	}
	return pathIs(z.Path, deepest) && between(z.Epoch, 1, lastEpoch)
}

// copied: with a chain of its own; one of nothing is nil.
func copied(z message.Zone) message.Zone {
	z.Chain = append([]int(nil), z.Chain...)
	return z
}

// alike: are the lists the same, zone by zone? A chain of nothing is no chain.
func alike(a, b []message.Zone) bool {
	return slices.EqualFunc(a, b, func(y, z message.Zone) bool { return reflect.DeepEqual(copied(y), copied(z)) })
}

func aboveText(p, q string) bool { return strings.HasPrefix(q, p) }

func meetTexts(p, q string) bool { return aboveText(p, q) || aboveText(q, p) }

// meets: of paths; one that may not be meets none.
func meets(p, q api.Path) bool {
	return pathIs(p, deepest) && pathIs(q, deepest) && meetTexts(textOf(p), textOf(q))
}

// parted: the zones that meet the path, and the others.
func (m *plain) parted(p api.Path) (met, left []message.Zone) {
	for _, z := range m.l {
		if meets(z.Path, p) {
			met = append(met, z)
		} else {
			left = append(left, z)
		}
	}
	return met, left
}

func (m *plain) learn(z message.Zone) bool {
	if !zoneIs(z) || z.Path.Depth > 2*m.k {
		return false
	}
	met, left := m.parted(z.Path)
	for _, other := range met {
		if other.Epoch >= z.Epoch {
			return false
		}
	}
	if len(left)+1 > mostZones {
		return false
	}
	m.l = append(left, copied(z))
	return true
}

func (m *plain) forget(p api.Path) { _, m.l = m.parted(p) }

// list: those of which it is so, in the order of paths.
func (m *plain) list(so func(message.Zone) bool) []message.Zone {
	var l []message.Zone
	for _, z := range m.l {
		if so(z) {
			l = append(l, z)
		}
	}
	slices.SortFunc(l, func(y, z message.Zone) int { return cmp.Compare(textOf(y.Path), textOf(z.Path)) })
	return l
}

func (m *plain) all() []message.Zone {
	return m.list(func(message.Zone) bool { return true })
}

func (m *plain) of(who int) []message.Zone {
	return m.list(func(z message.Zone) bool { return z.Holder == who })
}

// cellText: the way to the single cell, by halving the side: X and Y in turns.
func cellText(k int, c api.Point) string {
	var halves []byte
	for half := side(k) / 2; half >= 1; half /= 2 {
		halves = append(halves, byte('0'+c.X/half%2), byte('0'+c.Y/half%2))
	}
	return string(halves)
}

// find: the zone above the cell.
func (m *plain) find(c api.Point) (message.Zone, bool) {
	if !between(c.X, 0, side(m.k)-1) || !between(c.Y, 0, side(m.k)-1) {
		return message.Zone{}, false
	}
	for _, z := range m.l {
		if aboveText(textOf(z.Path), cellText(m.k, c)) {
			return z, true
		}
	}
	return message.Zone{}, false
}

func (m *plain) tiles() []tiling.Tile {
	var l []tiling.Tile
	for _, z := range m.all() {
		l = append(l, tiling.Tile{Path: z.Path, Who: z.Holder})
	}
	return l
}

// span: the least and the greatest number in X, or in Y.
type span [2]int

// spans: a zone's in X and in Y, by halving the side.
func spans(k int, text string) [2]span {
	s := [2]span{{0, side(k) - 1}, {0, side(k) - 1}}
	for i, c := range text {
		half := (s[i%2][1] - s[i%2][0] + 1) / 2
		if c == '0' {
			s[i%2][1] -= half
		} else {
			s[i%2][0] += half
		}
	}
	return s
}

// gap: how many steps it is from one span to the other one, the shorter way round.
func gap(k int, a, b span) int {
	if a[0] <= b[1] && b[0] <= a[1] {
		return 0
	}
	steps := func(from, to int) int { return ((to-from)%side(k) + side(k)) % side(k) }
	return min(steps(a[1], b[0]), steps(b[1], a[0]))
}

// beside: are two zones a step apart? Where they meet they are none apart.
func (m *plain) beside(p, q api.Path) bool {
	if !pathIs(p, 2*m.k) || !pathIs(q, 2*m.k) {
		return false
	}
	a, b := spans(m.k, textOf(p)), spans(m.k, textOf(q))
	return gap(m.k, a[0], b[0])+gap(m.k, a[1], b[1]) == 1
}

func (m *plain) round(p api.Path) []message.Zone {
	return m.list(func(z message.Zone) bool { return m.beside(z.Path, p) })
}

func (m *plain) members() []int {
	var l []int
	for who := range nodes {
		if len(m.of(who)) > 0 {
			l = append(l, who)
		}
	}
	return l
}

// whole: since zones do not meet, they have all cells if they have as many.
func (m *plain) whole() bool {
	cells := 0
	for _, z := range m.l {
		cells += side(m.k) * side(m.k) >> z.Path.Depth
	}
	return cells == side(m.k)*side(m.k)
}

func (m *plain) same(n *plain) bool { return m.k == n.k && alike(m.all(), n.all()) }

func (m *plain) copyOf() *plain { return &plain{k: m.k, l: slices.Clone(m.l)} }

// side: of k, from 1 to MaxK.
func side(k int) int {
	n := 1
	for range k {
		n *= 2
	}
	return n
}

// deep: a path of so many halves, which these are, over and over.
func deep(n int, halves string) string { return strings.Repeat(halves, n+1)[:n] }

// allTexts: of at most so many halves, in the order of paths.
func allTexts(depth int) []string {
	l := []string{""}
	for i := 0; len(l[i]) < depth; i++ {
		l = append(l, l[i]+"0", l[i]+"1")
	}
	slices.Sort(l)
	return l
}

// someTexts: all of a small torus; of a greater one each zone's, and what is above, beside and below it.
func (m *plain) someTexts() []string {
	if m.k <= 2 {
		return allTexts(2 * m.k)
	}
	l := []string{"", "0", "1", "01", deep(2*m.k, "1"), deep(2*m.k, "01")}
	for _, z := range m.l {
		text := textOf(z.Path)
		n := len(text)
		l = append(l, text, text[:n/2], text[:max(0, n-1)])
		if n > 0 {
			l = append(l, text[:n-1]+"0", text[:n-1]+"1")
		}
		if n < 2*m.k {
			l = append(l, text+"0", text+"1")
		}
	}
	slices.Sort(l)
	return slices.Compact(l)
}

// someCells: all of a small torus; of a greater one the corners of all zones, and what is beside them.
func (m *plain) someCells() []api.Point {
	n := side(m.k)
	var l []api.Point
	if m.k <= 2 {
		for i := range n * n {
			l = append(l, api.Point{X: i % n, Y: i / n})
		}
		return l
	}
	for _, z := range m.l {
		s := spans(m.k, textOf(z.Path))
		l = append(l, api.Point{X: s[0][0], Y: s[1][0]}, api.Point{X: s[0][1], Y: s[1][1]}, api.Point{X: (s[0][1] + 1) % n, Y: s[1][1]}, api.Point{X: s[0][0], Y: (s[1][1] + 1) % n})
	}
	return append(l, api.Point{}, api.Point{X: n - 1, Y: n - 1}, api.Point{X: n / 2})
}

// noCells: points that are none of k's.
func noCells(k int) []api.Point {
	var l []api.Point
	n := side(k)
	for _, wrong := range []int{-1, -n, math.MinInt, n, n + 1, 2 * n, 1 << 32, math.MaxInt} {
		l = append(l, api.Point{X: wrong, Y: 0}, api.Point{X: 0, Y: wrong}, api.Point{X: wrong, Y: wrong}, api.Point{X: n - 1, Y: wrong})
	}
	return l
}

// noPaths: none that may be at all.
func noPaths() []api.Path {
	return []api.Path{
		{Depth: -1}, {Depth: 33}, {Depth: 34}, {Depth: 64}, {Depth: math.MinInt}, {Depth: math.MaxInt},
		{Bits: 1}, {Bits: -1}, {Depth: -1, Bits: -1}, {Depth: 1, Bits: 2}, {Depth: 1, Bits: 3}, {Depth: 1, Bits: -1}, {Depth: 2, Bits: 4},
		{Depth: 32, Bits: 1 << 32}, {Depth: 32, Bits: -1}, {Depth: 33, Bits: 1<<33 - 1}, {Depth: 2, Bits: math.MinInt}, {Depth: 2, Bits: math.MaxInt},
	}
}

// wrongPaths: none that may be of k.
func wrongPaths(k int) []api.Path {
	return append(noPaths(), api.Path{Depth: 2*k + 1}, api.Path{Depth: 2*k + 2}, api.Path{Depth: 2*k + 1, Bits: 1<<(2*k+1) - 1}, api.Path{Depth: 2 * k, Bits: 1 << (2 * k)}, api.Path{Depth: 2 * k, Bits: -1})
}

// noNodes: numbers of none.
func noNodes() []int { return []int{-1, -8, math.MinInt, 8, 9, 64, 1 << 32, math.MaxInt} }

// wrongKs: of which there is no atlas.
func wrongKs() []int {
	return []int{0, -1, -2, -16, math.MinInt, math.MinInt + 1, api.MaxK + 1, api.MaxK + 2, 32, 63, 64, 65, 1 << 32, math.MaxInt - 1, math.MaxInt}
}

// made: an atlas that has learned these zones, and its model.
func made(t *testing.T, k int, l ...message.Zone) (*atlas.Atlas, *plain) {
	t.Helper()
	a, e := atlas.New(k)
	if e != api.OK || a == nil {
		t.Fatalf("New(%d) = %v, %d", k, a, e)
	}
	m := &plain{k: k}
	for _, z := range l {
		learned(t, a, m, z, true)
	}
	return a, m
}

// learned: what Learn has to answer, and so the model, which does it, too.
func learned(t *testing.T, a *atlas.Atlas, m *plain, z message.Zone, want bool) {
	t.Helper()
	was := m.copyOf()
	if got, plain := a.Learn(z), m.learn(z); got != want || plain != want {
		t.Fatalf("K %d, of %v: Learn(%v) = %v, in the model %v, want %v", was.k, was.l, z, got, plain, want)
	}
	if !want && !m.same(was) {
		t.Fatalf("K %d, of %v: the model has changed: %v", was.k, was.l, m.l)
	}
}

// refused: Learn tells false, and nothing is changed.
func refused(t *testing.T, a *atlas.Atlas, m *plain, z message.Zone) {
	t.Helper()
	learned(t, a, m, z, false)
	same(t, a, m)
}

// forgotten: in the atlas and in the model.
func forgotten(t *testing.T, a *atlas.Atlas, m *plain, p api.Path) {
	t.Helper()
	a.Forget(p)
	m.forget(p)
	same(t, a, m)
}

// same: what the atlas tells is what is in the list.
func same(t *testing.T, a *atlas.Atlas, m *plain) {
	t.Helper()
	if l, want := a.List(), m.all(); !alike(l, want) {
		t.Fatalf("K %d: List() = %v, want %v", m.k, l, want)
	}
	if l, want := a.Tiles(), m.tiles(); !slices.Equal(l, want) {
		t.Fatalf("K %d: Tiles() = %v, want %v", m.k, l, want)
	}
	if l, want := a.Members(), m.members(); !slices.Equal(l, want) {
		t.Fatalf("K %d, of %v: Members() = %v, want %v", m.k, m.l, l, want)
	}
	if got := a.Whole(); got != m.whole() {
		t.Fatalf("K %d, of %v: Whole() = %v", m.k, m.l, got)
	}
	for who := -1; who <= nodes; who++ {
		if l, want := a.Of(who), m.of(who); !alike(l, want) {
			t.Fatalf("K %d, of %v: Of(%d) = %v, want %v", m.k, m.l, who, l, want)
		}
	}
	for _, p := range m.someTexts() {
		if l, want := a.Round(pathOf(p)), m.round(pathOf(p)); !alike(l, want) {
			t.Fatalf("K %d, of %v: Round(%q) = %v, want %v", m.k, m.l, p, l, want)
		}
	}
	for _, c := range m.someCells() {
		want, some := m.find(c)
		if z, ok := a.Find(c); !alike([]message.Zone{z}, []message.Zone{want}) || ok != some {
			t.Fatalf("K %d, of %v: Find(%v) = %v, %v, want %v, %v", m.k, m.l, c, z, ok, want, some)
		}
	}
}

// has: the atlas has just these zones; what else it tells goes by them.
func has(t *testing.T, a *atlas.Atlas, k int, l ...message.Zone) {
	t.Helper()
	same(t, a, &plain{k: k, l: l})
}

// even: so many zones, which are the whole torus, and of which none is more than one half deeper than another one.
func even(n int) []message.Zone {
	l := []string{""}
	for i := 1; i < n; i++ {
		l = append(l[1:], l[0]+"0", l[0]+"1")
	}
	return numbered(l)
}

// stair: so many zones, which are the whole torus: along the way that these halves, over and over, lead, what is beside each of its paths, and its last one.
func stair(n int, halves string) []message.Zone {
	var l []string
	way := ""
	for i := range n - 1 {
		half := rune(halves[i%len(halves)])
		l = append(l, way+string('0'+'1'-half))
		way += string(half)
	}
	return numbered(append(l, way))
}

// numbered: zones of these texts, with Epochs, Holders and chains that are unlike.
func numbered(texts []string) []message.Zone {
	var l []message.Zone
	for i, text := range texts {
		l = append(l, zone(text, 100+i, i%nodes, (i+3)%nodes, (i+1)%nodes))
	}
	return l
}
