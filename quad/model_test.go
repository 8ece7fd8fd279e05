package quad_test

import (
	"math"
	"math/rand"
	"slices"
	"strconv"
	"testing"

	"glebe/api"
	"glebe/path"
	"glebe/point"
	"glebe/quad"
	"glebe/window"
)

// A tree is to the model a plain list of records, in the order in which they came, beside its k and its zone's halves as a text.
type plain struct {
	k    int
	zone string
	l    []point.Rec
}

// pathOf: of halves that are written as digits, as many as may be.
func pathOf(text string) api.Path {
	p := api.Path{Depth: len(text)}
	for i := range len(text) {
		p.Bits = 2*p.Bits + int(text[i]-'0')
	}
	return p
}

// rectOf: the zone's cells: half by half, in X, then in Y.
func rectOf(k int, zone string) window.Rect {
	r := window.Rect{W: side(k), H: side(k)}
	for i := range len(zone) {
		upper := int(zone[i] - '0')
		if i%2 == 0 {
			r.W /= 2
			r.X += upper * r.W
		} else {
			r.H /= 2
			r.Y += upper * r.H
		}
	}
	return r
}

func side(k int) int { return 1 << k }

func cell(x, y int) api.Point { return api.Point{X: x, Y: y} }

// has: numbers of any size, so nothing is put together.
func has(r window.Rect, c api.Point) bool {
	return c.X >= r.X && c.Y >= r.Y && c.X-r.X < r.W && c.Y-r.Y < r.H
}

// may: by chapter 7's words, and this one's.
func (m *plain) may(r point.Rec) bool {
	return has(rectOf(m.k, m.zone), r.At) && len(r.Key) >= 1 && len(r.Key) <= 16 && len(r.Value) <= 32 && r.Ver >= 1 && r.Ver <= 1<<40
}

func (m *plain) place(at api.Point, key string) int {
	return slices.IndexFunc(m.l, func(r point.Rec) bool { return r.At == at && r.Key == key })
}

func (m *plain) put(r point.Rec) (bool, api.Errno) {
	if !m.may(r) {
		return false, api.ErrArg
	}
	i := m.place(r.At, r.Key)
	if i < 0 {
		m.l = append(m.l, r)
		return false, api.OK
	}
	m.l[i] = r
	return true, api.OK
}

func (m *plain) del(at api.Point, key string) bool {
	i := m.place(at, key)
	if i < 0 {
		return false
	}
	m.l = slices.Delete(m.l, i, i+1)
	return true
}

func (m *plain) get(at api.Point, key string) (point.Rec, bool) {
	i := m.place(at, key)
	if i < 0 {
		return point.Rec{}, false
	}
	return m.l[i], true
}

// counts: may a rectangle's number be asked for?
func counts(n int) bool { return n >= 0 && n <= 1<<30 }

func (m *plain) in(r window.Rect) []point.Rec {
	if !counts(r.X) || !counts(r.Y) || !counts(r.W) || !counts(r.H) {
		return nil
	}
	l := within(r, m.l)
	slices.SortFunc(l, byCell)
	return l
}

// within: those whose cells are in the rectangle, as they stand.
func within(r window.Rect, l []point.Rec) []point.Rec {
	var some []point.Rec
	for _, x := range l {
		if has(r, x.At) {
			some = append(some, x)
		}
	}
	return some
}

// byCell: by Y, then X, then Key.
func byCell(a, b point.Rec) int {
	switch {
	case a.At.Y != b.At.Y:
		return a.At.Y - b.At.Y
	case a.At.X != b.At.X:
		return a.At.X - b.At.X
	case a.Key < b.Key:
		return -1
	case a.Key > b.Key:
		return 1
	}
	return 0
}

func (m *plain) all() []point.Rec { return m.in(rectOf(m.k, m.zone)) }

func (m *plain) copyOf() *plain {
	return &plain{k: m.k, zone: m.zone, l: slices.Clone(m.l)}
}

// part: of a zone below.
func (m *plain) part(zone string) *plain {
	return &plain{k: m.k, zone: zone, l: within(rectOf(m.k, zone), m.l)}
}

// shape: how many nodes and leaves, and how deep.
type shape struct {
	nodes, leaves, depth int
}

func shapeOf(x *quad.Tree) shape {
	nodes, leaves, depth := x.Shape()
	return shape{nodes, leaves, depth}
}

// spans: of so many numbers from there on, parted where there is more than one.
func spans(from, size int) [][2]int {
	if size == 1 {
		return [][2]int{{from, 1}}
	}
	return [][2]int{{from, size / 2}, {from + size/2, size / 2}}
}

// shaped: by the chapter's words, of the records that are there, whatever came before.
func shaped(r window.Rect, l []point.Rec) shape {
	if len(l) <= 4 || r.W == 1 && r.H == 1 {
		return shape{1, 1, 0}
	}
	s := shape{nodes: 1}
	for _, x := range spans(r.X, r.W) {
		for _, y := range spans(r.Y, r.H) {
			q := window.Rect{X: x[0], Y: y[0], W: x[1], H: y[1]}
			below := shaped(q, within(q, l))
			s.nodes += below.nodes
			s.leaves += below.leaves
			s.depth = max(s.depth, below.depth+1)
		}
	}
	return s
}

func (m *plain) shape() shape { return shaped(rectOf(m.k, m.zone), m.l) }

// someRects: the zone, parts of it, single cells, what is beside it and round it, and such as nothing is in.
func (m *plain) someRects() []window.Rect {
	z, s := rectOf(m.k, m.zone), side(m.k)
	l := []window.Rect{
		z, {}, {W: s, H: s}, {W: 1 << 30, H: 1 << 30}, {X: 1 << 30, Y: 1 << 30, W: 1 << 30, H: 1 << 30},
		{X: z.X, Y: z.Y, W: z.W}, {X: z.X, Y: z.Y, H: z.H}, {X: z.X, Y: z.Y, W: 1, H: 1},
		{X: z.X + z.W/2, Y: z.Y, W: z.W, H: z.H}, {X: z.X, Y: z.Y + z.H/2, W: z.W, H: z.H},
		{X: z.X + z.W, Y: z.Y, W: z.W, H: z.H}, {X: z.X, Y: z.Y + z.H, W: z.W, H: z.H},
		{X: z.X, Y: z.Y, W: z.W - 1, H: z.H}, {X: z.X, Y: z.Y, W: z.W, H: z.H - 1}, {X: z.X + 1, Y: z.Y + 1, W: z.W, H: z.H},
		{W: s, H: z.Y + z.H/2}, {W: z.X + z.W/2, H: s}, {X: z.X + z.W - 1, Y: z.Y + z.H - 1, W: 2 * s, H: 2 * s},
		{X: -1, Y: z.Y, W: s + 1, H: z.H}, {X: z.X, Y: -1, W: z.W, H: s + 1}, {X: z.X, Y: z.Y, W: 1<<30 + 1, H: 1}, {X: z.X, Y: z.Y, W: 1, H: 1<<30 + 1},
	}
	for i := range min(len(m.l), 6) {
		at, to := m.l[i].At, m.l[len(m.l)-1-i].At
		l = append(l, window.Rect{X: at.X, Y: at.Y, W: 1, H: 1}, window.Rect{X: at.X, Y: at.Y, W: s, H: s}, window.Rect{X: z.X, Y: z.Y, W: at.X - z.X, H: z.H})
		l = append(l, window.Rect{X: min(at.X, to.X), Y: min(at.Y, to.Y), W: max(at.X, to.X) - min(at.X, to.X) + 1, H: max(at.Y, to.Y) - min(at.Y, to.Y) + 1})
	}
	return l
}

// gets: what is asked of each record's place, and beside it.
func gets(t *testing.T, x *quad.Tree, m *plain) {
	t.Helper()
	ask := func(at api.Point, key string) {
		want, some := m.get(at, key)
		if r, ok := x.Get(at, key); r != want || ok != some {
			t.Fatalf("K %d, zone %q, of %v: Get(%v, %q) = %v, %v, want %v, %v", m.k, m.zone, m.l, at, key, r, ok, want, some)
		}
	}
	for _, r := range m.l {
		for _, key := range []string{r.Key, "", r.Key + "\x00", r.Key[1:], "k"} {
			ask(r.At, key)
		}
		for _, c := range []api.Point{cell(r.At.X+1, r.At.Y), cell(r.At.X, r.At.Y-1), cell(r.At.Y, r.At.X), cell(r.At.X+side(m.k), r.At.Y)} {
			ask(c, r.Key)
		}
	}
	z := rectOf(m.k, m.zone)
	for _, c := range []api.Point{{}, cell(z.X, z.Y), cell(z.X+z.W-1, z.Y+z.H-1), cell(z.X-1, z.Y), cell(z.X, z.Y+z.H), cell(math.MinInt, math.MaxInt)} {
		ask(c, "k")
	}
}

// same: what the tree tells is what the list tells.
func same(t *testing.T, x *quad.Tree, m *plain) {
	t.Helper()
	if p := x.Zone(); p != pathOf(m.zone) {
		t.Fatalf("K %d, zone %q: Zone() = %v", m.k, m.zone, p)
	}
	if l, want := x.All(), m.all(); !slices.Equal(l, want) {
		t.Fatalf("K %d, zone %q: All() = %v, want %v", m.k, m.zone, l, want)
	}
	if n := x.Len(); n != len(m.l) {
		t.Fatalf("K %d, zone %q, of %v: Len() = %d, want %d", m.k, m.zone, m.l, n, len(m.l))
	}
	if s, want := shapeOf(x), m.shape(); s != want {
		t.Fatalf("K %d, zone %q, of %v: Shape() = %v, want %v", m.k, m.zone, m.l, s, want)
	}
	for _, r := range m.someRects() {
		if l, want := x.In(r), m.in(r); !slices.Equal(l, want) {
			t.Fatalf("K %d, zone %q, of %v: In(%v) = %v, want %v", m.k, m.zone, m.l, r, l, want)
		}
	}
	gets(t, x, m)
}

// made: a tree of these, and the list of the same.
func made(t *testing.T, k int, zone string, l ...point.Rec) (*quad.Tree, *plain) {
	t.Helper()
	x, e := quad.New(k, pathOf(zone), l...)
	if e != api.OK || x == nil {
		t.Fatalf("New(%d, %q, %v): %d", k, zone, l, e)
	}
	m := &plain{k: k, zone: zone}
	for _, r := range l {
		m.put(r)
	}
	return x, m
}

// rec: one that may be.
func rec(x, y int, key string) point.Rec {
	return point.Rec{At: cell(x, y), Key: key, Value: "v" + key, Ver: 1 + len(key)}
}

// heap: so many records of one cell.
func heap(c api.Point, n int) []point.Rec {
	var l []point.Rec
	for i := range n {
		l = append(l, point.Rec{At: c, Key: strconv.Itoa(i), Ver: i + 1})
	}
	return l
}

// deep: a text of so many halves, these over and over.
func deep(n int, halves string) string {
	text := ""
	for i := range n {
		text += halves[i%len(halves) : i%len(halves)+1]
	}
	return text
}

// zonesOf: all texts of k, or, where these are too many, some of each depth.
func zonesOf(k int) []string {
	var l []string
	for depth := range 2*k + 1 {
		if k > 2 {
			for _, halves := range []string{"0", "1", "01", "10", "110"} {
				l = append(l, deep(depth, halves))
			}
			continue
		}
		for bits := range 1 << depth {
			l = append(l, path.Print(api.Path{Depth: depth, Bits: bits}))
		}
	}
	l = slices.DeleteFunc(l, func(s string) bool { return s == "-" })
	return slices.Compact(slices.Insert(l, 0, ""))
}

// wrongPaths: none of them may be of k.
func wrongPaths(k int) []api.Path {
	return []api.Path{
		{Depth: 2*k + 1}, {Depth: 2*k + 2}, {Depth: -1}, {Depth: -1, Bits: 1}, {Depth: 0, Bits: 1}, {Depth: 0, Bits: -1}, {Depth: 1, Bits: 2}, {Depth: 1, Bits: -1}, {Depth: 2 * k, Bits: side(k) * side(k)},
		{Depth: 33}, {Depth: 63}, {Depth: 64}, {Depth: math.MaxInt, Bits: math.MaxInt}, {Depth: math.MinInt, Bits: math.MinInt}, {Depth: 1, Bits: math.MinInt}, {Depth: 2, Bits: math.MaxInt},
	}
}

func wrongKs() []int {
	return []int{0, -1, -2, api.MaxK + 1, 32, 64, -64, math.MaxInt, math.MinInt, 1 << 32, 1<<32 + 1}
}

// someCell: of the zone, most often one of a few that lie close to one another.
func someCell(r *rand.Rand, z window.Rect) api.Point {
	near := func(from, size int) int {
		switch r.Intn(8) {
		case 0:
			return from + r.Intn(size)
		case 1:
			return from + size - 1 - r.Intn(min(size, 2))
		case 2:
			return from + size/2 - r.Intn(min(size/2, 1)+1)
		}
		return from + r.Intn(min(size, 4))
	}
	return cell(near(z.X, z.W), near(z.Y, z.H))
}

// drawn: a record of the zone.
func drawn(r *rand.Rand, k int, zone string) point.Rec {
	keys := []string{"a", "b", "ab", "\xff", "\x00", "sixteen bytes ok"}
	return point.Rec{At: someCell(r, rectOf(k, zone)), Key: keys[r.Intn(len(keys))], Value: strconv.Itoa(r.Intn(100)), Ver: 1 + r.Intn(1000)}
}

// someRecs: so many drawn ones, no two of one cell and Key, as far as there are so many.
func someRecs(r *rand.Rand, k int, zone string, n int) []point.Rec {
	m := &plain{k: k, zone: zone}
	for range 2 * n {
		if len(m.l) < n {
			m.put(drawn(r, k, zone))
		}
	}
	return m.l
}
