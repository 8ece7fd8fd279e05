package quad_test

import (
	"math"
	"slices"
	"strings"
	"testing"

	"glebe/api"
	"glebe/path"
	"glebe/point"
	"glebe/quad"
	"glebe/window"
)

// nobodys: trees that New did not make.
func nobodys() []*quad.Tree {
	var none *quad.Tree
	return []*quad.Tree{none, {}, new(quad.Tree)}
}

// P801: of a nil tree, and one that New did not make.
func TestOfNone(t *testing.T) {
	for _, x := range nobodys() {
		for _, c := range []api.Point{{}, cell(1, 1), cell(-1, 0), cell(math.MaxInt, math.MinInt)} {
			if was, e := x.Put(point.Rec{At: c, Key: "k", Ver: 1}); was || e != api.ErrArg {
				t.Errorf("Put at %v: %v, %d", c, was, e)
			}
			if x.Del(c, "k") {
				t.Errorf("Del at %v", c)
			}
			if r, ok := x.Get(c, "k"); ok || r != (point.Rec{}) {
				t.Errorf("Get at %v: %v, %v", c, r, ok)
			}
		}
		for _, r := range []window.Rect{{}, {W: 2, H: 2}, {X: -1, Y: math.MinInt, W: math.MaxInt, H: 1}} {
			if l := x.In(r); len(l) != 0 {
				t.Errorf("In(%v) = %v", r, l)
			}
		}
		if p, l, n := x.Zone(), x.All(), x.Len(); p != (api.Path{}) || len(l) != 0 || n != 0 || shapeOf(x) != (shape{}) {
			t.Errorf("Zone %v, All %v, Len %d, Shape %v", p, l, n, shapeOf(x))
		}
		for _, p := range []api.Path{{}, {Depth: 1}, {Depth: -1}, {Depth: math.MaxInt, Bits: math.MinInt}} {
			if y, e := x.Part(p); y != nil || e != api.ErrArg {
				t.Errorf("Part(%v) = %v, %d", p, y, e)
			}
		}
		if c := x.Clone(); c != nil {
			t.Errorf("Clone() = %v", c)
		}
	}
}

// P801, P803: Join, where one of both is none, or both are.
func TestJoinOfNone(t *testing.T) {
	for _, x := range nobodys() {
		for _, zone := range []string{"", "0", "1"} {
			some, m := made(t, 1, zone, rectRecs(1, zone)...)
			joinRefuses(t, some, x)
			joinRefuses(t, x, some)
			same(t, some, m)
		}
		for _, y := range nobodys() {
			joinRefuses(t, x, y)
		}
	}
}

// joinRefuses: ErrArg, and no tree.
func joinRefuses(t *testing.T, x, y *quad.Tree) {
	t.Helper()
	if z, e := x.Join(y); z != nil || e != api.ErrArg {
		t.Errorf("Join = %v, %d", z, e)
	}
}

// rectRecs: records at the zone's corners, two at its first cell.
func rectRecs(k int, zone string) []point.Rec {
	z := rectOf(k, zone)
	x, y := z.X+z.W-1, z.Y+z.H-1
	return []point.Rec{rec(x, y, "a"), rec(z.X, z.Y, "b"), rec(z.X, z.Y, "a"), rec(x, z.Y, "c"), rec(z.X, y, "d")}
}

// The chapter's example: five records in one cell of a zone of that one cell: one node.
func TestExample(t *testing.T) {
	for k := 1; k <= api.MaxK; k++ {
		zone := deep(2*k, "10")
		z := rectOf(k, zone)
		x, m := made(t, k, zone, heap(cell(z.X, z.Y), 5)...)
		if s := shapeOf(x); s != (shape{1, 1, 0}) || x.Len() != 5 {
			t.Errorf("K %d: Shape %v, Len %d", k, s, x.Len())
		}
		same(t, x, m)
	}
}

// P802: New, of no record, a few, and many, of zones of each depth.
func TestNew(t *testing.T) {
	for k := 1; k <= api.MaxK; k++ {
		for _, zone := range zonesOf(k) {
			x, m := made(t, k, zone)
			same(t, x, m)
			x, m = made(t, k, zone, rectRecs(k, zone)[:1]...)
			same(t, x, m)
			x, m = made(t, k, zone, rectRecs(k, zone)...)
			same(t, x, m)
		}
	}
}

// newRefuses: New answers ErrArg, and no tree.
func newRefuses(t *testing.T, k int, zone api.Path, l ...point.Rec) {
	t.Helper()
	if x, e := quad.New(k, zone, l...); x != nil || e != api.ErrArg {
		t.Errorf("New(%d, %v, %v) = %v, %d", k, zone, l, x, e)
	}
}

// P802: New, of a k or a zone that may not be.
func TestNewOfWrongKOrZone(t *testing.T) {
	for _, k := range wrongKs() {
		for _, zone := range []api.Path{{}, {Depth: 1, Bits: 1}, {Depth: 2}, {Depth: -1}, {Depth: 33}} {
			newRefuses(t, k, zone)
			newRefuses(t, k, zone, rec(0, 0, "k"))
		}
	}
	for k := 1; k <= api.MaxK; k++ {
		for _, zone := range wrongPaths(k) {
			newRefuses(t, k, zone)
			newRefuses(t, k, zone, rec(0, 0, "k"))
		}
	}
}

// P802: New, with a record that may not be, or whose cell is not in the zone, at each place of the list.
func TestNewOfWrongRecords(t *testing.T) {
	for _, k := range []int{1, 2, api.MaxK} {
		for _, zone := range zonesOf(k) {
			right := rectRecs(k, zone)
			for _, wrong := range wrongRecs(k, zone) {
				newRefuses(t, k, pathOf(zone), wrong)
				for i := range len(right) + 1 {
					newRefuses(t, k, pathOf(zone), slices.Insert(slices.Clone(right), i, wrong)...)
				}
				newRefuses(t, k, pathOf(zone), wrong, wrong)
			}
		}
	}
}

// P802: New, of two of one cell and Key: the last one is there.
func TestNewOfTwoOfOneKey(t *testing.T) {
	one, two := rec(1, 0, "k"), rec(1, 0, "k")
	one.Value, two.Ver = "1", 9
	x, m := made(t, 1, "1", one, rec(1, 1, "k"), two)
	same(t, x, m)
	if r, ok := x.Get(cell(1, 0), "k"); r != two || !ok || x.Len() != 2 {
		t.Errorf("Get = %v, %v, Len %d", r, ok, x.Len())
	}
}

// around: just outside each corner and each side of the zone, where the torus ends, too.
func around(k int, zone string) []api.Point {
	z := rectOf(k, zone)
	var l []api.Point
	for _, x := range []int{z.X - 1, z.X, z.X + z.W - 1, z.X + z.W} {
		for _, y := range []int{z.Y - 1, z.Y, z.Y + z.H - 1, z.Y + z.H} {
			if c := cell(x, y); !has(z, c) {
				l = append(l, c)
			}
		}
	}
	return append(l, cell(z.X+side(k), z.Y), cell(z.X, z.Y-side(k)), cell(math.MinInt, z.Y), cell(z.X, math.MaxInt), cell(math.MaxInt, math.MaxInt), cell(z.X+1<<32, z.Y+1<<48))
}

// wrongRecs: such as Put refuses.
func wrongRecs(k int, zone string) []point.Rec {
	z := rectOf(k, zone)
	right := rec(z.X, z.Y, "a") // as one of rectRecs
	var l []point.Rec
	for _, key := range []string{"", strings.Repeat("k", 17), strings.Repeat("k", 1<<17)} {
		r := right
		r.Key = key
		l = append(l, r)
	}
	for _, value := range []string{strings.Repeat("v", 33), strings.Repeat("v", 1<<17)} {
		r := right
		r.Value = value
		l = append(l, r)
	}
	for _, ver := range []int{0, -1, 1<<40 + 1, math.MaxInt, math.MinInt} {
		r := right
		r.Ver = ver
		l = append(l, r)
	}
	for _, c := range around(k, zone) {
		r := right
		r.At = c
		l = append(l, r)
	}
	return append(l, point.Rec{})
}

// puts: Put is answered as in the list, and does the same.
func puts(t *testing.T, x *quad.Tree, m *plain, r point.Rec, want bool) {
	t.Helper()
	was, e := m.put(r)
	if was != want || e != api.OK {
		t.Fatalf("in the list, Put of %v: %v, %d", r, was, e)
	}
	if was, e := x.Put(r); was != want || e != api.OK {
		t.Fatalf("K %d, zone %q, then %v: Put of %v: %v, %d", m.k, m.zone, m.l, r, was, e)
	}
	same(t, x, m)
}

// dels: likewise.
func dels(t *testing.T, x *quad.Tree, m *plain, at api.Point, key string, want bool) {
	t.Helper()
	if m.del(at, key) != want || x.Del(at, key) != want {
		t.Fatalf("K %d, zone %q, then %v: Del(%v, %q) is not %v", m.k, m.zone, m.l, at, key, want)
	}
	same(t, x, m)
}

// P802: Put of a new record, in the place of one, of another Key; at each corner; then Del of each of them.
func TestPutAndDel(t *testing.T) {
	for k := 1; k <= api.MaxK; k++ {
		for _, zone := range zonesOf(k) {
			x, m := made(t, k, zone)
			z := rectOf(k, zone)
			first, last := cell(z.X, z.Y), cell(z.X+z.W-1, z.Y+z.H-1)
			puts(t, x, m, rec(first.X, first.Y, "k"), false)
			puts(t, x, m, point.Rec{At: first, Key: "k", Value: strings.Repeat("v", 32), Ver: 1 << 40}, true)
			puts(t, x, m, point.Rec{At: first, Key: strings.Repeat("k", 16), Ver: 1}, false)
			puts(t, x, m, point.Rec{At: last, Key: "last", Ver: 1}, false)
			puts(t, x, m, point.Rec{At: last, Key: "last", Ver: 1}, true)
			puts(t, x, m, point.Rec{At: cell(first.X, last.Y), Key: "lower", Ver: 2}, false)
			puts(t, x, m, point.Rec{At: cell(last.X, first.Y), Key: "right", Ver: 3}, false)
			puts(t, x, m, point.Rec{At: cell(last.X, first.Y), Key: "\x00\xff", Ver: 4}, false)
			puts(t, x, m, rec(first.X, first.Y, "k"), true)
			dels(t, x, m, first, "other", false)
			dels(t, x, m, first, "", false)
			dels(t, x, m, first, "k", true)
			dels(t, x, m, first, "k", false)
			dels(t, x, m, last, "last", true)
			puts(t, x, m, point.Rec{At: last, Key: "last", Ver: 7}, false)
			for len(m.l) > 0 {
				r := m.l[len(m.l)/2]
				dels(t, x, m, r.At, r.Key, true)
				dels(t, x, m, r.At, r.Key, false)
			}
		}
	}
}

// P802: what may not be is refused, and changes nothing.
func TestPutRefuses(t *testing.T) {
	for _, k := range []int{1, 2, 7, api.MaxK} {
		for _, zone := range zonesOf(k) {
			empty, none := made(t, k, zone)
			x, m := made(t, k, zone, rectRecs(k, zone)...)
			for _, r := range wrongRecs(k, zone) {
				for _, y := range []*quad.Tree{empty, x} {
					if was, e := y.Put(r); was || e != api.ErrArg {
						t.Fatalf("K %d, zone %q: Put of %v: %v, %d", k, zone, r, was, e)
					}
				}
			}
			same(t, empty, none)
			same(t, x, m)
		}
	}
}

// P802: a record that may not be does not come in the place of one that is there.
func TestPutRefusesInPlace(t *testing.T) {
	for _, n := range []int{1, 5, 40} {
		x, m := made(t, 2, "01", heap(cell(1, 3), n)...)
		for _, r := range []point.Rec{{At: cell(1, 3), Key: "0", Ver: 0}, {At: cell(1, 3), Key: "0", Ver: 1<<40 + 1}, {At: cell(1, 3), Key: "0", Value: strings.Repeat("v", 33), Ver: 1}} {
			if was, e := x.Put(r); was || e != api.ErrArg {
				t.Errorf("Put of %v: %v, %d", r, was, e)
			}
		}
		same(t, x, m)
	}
}

// P802: Del and Get of no cell of the zone: nothing, even where the torus would have it.
func TestOutside(t *testing.T) {
	for _, k := range []int{1, 2, 7, api.MaxK} {
		for _, zone := range zonesOf(k) {
			x, m := made(t, k, zone, rectRecs(k, zone)...)
			for _, c := range around(k, zone) {
				for _, key := range []string{"a", "b", "c", "d", "", strings.Repeat("k", 1000)} {
					if r, ok := x.Get(c, key); ok || r != (point.Rec{}) || x.Del(c, key) {
						t.Fatalf("K %d, zone %q: at %v, %q: %v, %v", k, zone, c, key, r, ok)
					}
				}
			}
			same(t, x, m)
		}
	}
}

// ins: what In has to answer.
func ins(t *testing.T, x *quad.Tree, r window.Rect, want ...point.Rec) {
	t.Helper()
	if l := x.In(r); !slices.Equal(l, want) {
		t.Errorf("In(%v) = %v, want %v", r, l, want)
	}
}

// P803: In, of a tree whose records lie in four quarters, told row by row.
func TestIn(t *testing.T) {
	a, b, c, d, e := rec(3, 0, "z"), rec(0, 1, "b"), rec(0, 1, "c"), rec(3, 1, "a"), rec(2, 3, "a")
	x, _ := made(t, 2, "", e, d, c, b, a)
	ins(t, x, window.Rect{W: 4, H: 4}, a, b, c, d, e)
	ins(t, x, window.Rect{W: 1 << 30, H: 1 << 30}, a, b, c, d, e)
	ins(t, x, window.Rect{Y: 1, W: 4, H: 1}, b, c, d)
	ins(t, x, window.Rect{X: 2, W: 2, H: 2}, a, d)
	ins(t, x, window.Rect{X: 1, Y: 1, W: 2, H: 3}, e)
	ins(t, x, window.Rect{X: 3, Y: 1, W: 1, H: 1}, d)
	ins(t, x, window.Rect{X: 3, Y: 1, W: 1 << 30, H: 1 << 30}, d)
	ins(t, x, window.Rect{X: 2, Y: 2, W: 1, H: 1})
	for _, n := range []int{-1, -4, math.MinInt, 1<<30 + 1, 1 << 40, math.MaxInt} {
		ins(t, x, window.Rect{X: n, W: 4, H: 4})
		ins(t, x, window.Rect{Y: n, W: 4, H: 4})
		ins(t, x, window.Rect{W: n, H: 4})
		ins(t, x, window.Rect{W: 4, H: n})
	}
	for _, r := range []window.Rect{{}, {W: 4}, {H: 4}, {X: 4, W: 4, H: 4}, {Y: 4, W: 4, H: 4}, {X: 1 << 30, W: 1 << 30, H: 4}, {Y: 1 << 30, W: 4, H: 1 << 30}, {X: -1, Y: -1, W: 5, H: 5}} {
		ins(t, x, r)
	}
}

// P803: In does not go round the torus.
func TestInDoesNotGoRound(t *testing.T) {
	x, _ := made(t, 2, "", rec(0, 0, "a"), rec(3, 3, "b"))
	ins(t, x, window.Rect{X: 3, Y: 3, W: 4, H: 4}, rec(3, 3, "b"))
	ins(t, x, window.Rect{X: 4, Y: 4, W: 4, H: 4})
}

// shapeIs: what Shape has to answer.
func shapeIs(t *testing.T, x *quad.Tree, want shape) {
	t.Helper()
	if s := shapeOf(x); s != want {
		t.Errorf("of %v: Shape() = %v, want %v", x.All(), s, want)
	}
}

// P803: Shape, of no record, of four and of five in one rectangle.
func TestShape(t *testing.T) {
	x, _ := made(t, 2, "")
	shapeIs(t, x, shape{1, 1, 0})
	for _, r := range heap(cell(1, 1), 4) {
		x.Put(r)
		shapeIs(t, x, shape{1, 1, 0})
	}
	x.Put(rec(3, 3, "k"))
	shapeIs(t, x, shape{5, 4, 1})
	x.Put(rec(0, 0, "k"))
	shapeIs(t, x, shape{9, 7, 2})
	x.Put(rec(0, 0, "k"))
	shapeIs(t, x, shape{9, 7, 2})
	x.Del(cell(1, 1), "0")
	shapeIs(t, x, shape{5, 4, 1})
	x.Del(cell(1, 1), "1")
	shapeIs(t, x, shape{1, 1, 0})
	x.Put(rec(0, 3, "k"))
	shapeIs(t, x, shape{5, 4, 1})
	x.Del(cell(0, 3), "other")
	shapeIs(t, x, shape{5, 4, 1})
}

// P803: Shape, of a zone of one column: it is halved in Y alone; of one that is higher than wide: in both.
func TestShapeOfColumns(t *testing.T) {
	x, _ := made(t, 1, "1", append(heap(cell(1, 1), 4), rec(1, 0, "k"))...)
	shapeIs(t, x, shape{3, 2, 1})
	x, _ = made(t, 2, "0", append(heap(cell(1, 1), 4), rec(1, 0, "k"))...)
	shapeIs(t, x, shape{1 + 4 + 2, 3 + 2, 2})
	x, _ = made(t, 2, "0", append(heap(cell(1, 1), 4), rec(1, 2, "k"))...)
	shapeIs(t, x, shape{5, 4, 1})
	last := deep(2*api.MaxK-1, "1")
	z := rectOf(api.MaxK, last)
	x, _ = made(t, api.MaxK, last, heap(cell(z.X, z.Y), 5)...)
	shapeIs(t, x, shape{3, 2, 1})
}

// P803: Shape, of five in one cell: as deep as there are halves, whatever the zone.
func TestShapeOfOneCell(t *testing.T) {
	for k := 1; k <= api.MaxK; k++ {
		for depth := range 2*k + 1 {
			zone := deep(depth, "011")
			z := rectOf(k, zone)
			x, m := made(t, k, zone, heap(cell(z.X+z.W/2, z.Y+z.H/3), 5)...)
			d := k - depth/2
			want := shape{1 + 4*d, 1 + 3*d, d}
			if depth%2 == 1 {
				want = shape{1 + 4*d - 2, 3*d - 1, d} // the last quarters are two
			}
			shapeIs(t, x, want)
			same(t, x, m)
		}
	}
}

// partIs: the part of the zone is as the list's, and the tree itself stays.
func partIs(t *testing.T, x *quad.Tree, m *plain, zone string) {
	t.Helper()
	y, e := x.Part(pathOf(zone))
	if e != api.OK {
		t.Fatalf("K %d, zone %q: Part(%q): %d", m.k, m.zone, zone, e)
	}
	same(t, y, m.part(zone))
}

// P803: Part, of the zone itself, of both children, and of paths far below.
func TestPart(t *testing.T) {
	for _, k := range []int{1, 2, 5, api.MaxK} {
		for _, zone := range zonesOf(k) {
			for _, l := range [][]point.Rec{nil, rectRecs(k, zone), append(rectRecs(k, zone), heap(rectRecs(k, zone)[0].At, 30)...)} {
				x, m := made(t, k, zone, l...)
				partIs(t, x, m, zone)
				for _, below := range []string{"0", "1", deep(2*k, "0"), deep(2*k, "1"), deep(2*k, "01"), deep(2*k-1, "1"), "010"} {
					partIs(t, x, m, (zone + below)[:min(2*k, len(zone)+len(below))])
				}
				same(t, x, m)
			}
		}
	}
}

// P803: Part, of a path that the zone is not above, and of one that may not be.
func TestPartRefuses(t *testing.T) {
	refuses := func(x *quad.Tree, p api.Path) {
		t.Helper()
		if y, e := x.Part(p); y != nil || e != api.ErrArg {
			t.Errorf("zone %v: Part(%v) = %v, %d", x.Zone(), p, y, e)
		}
	}
	for _, k := range []int{2, 3, 15, api.MaxK} {
		for _, zone := range []string{"", "0", "01", "110"} {
			x, m := made(t, k, zone, rectRecs(k, zone)...)
			for _, p := range wrongPaths(k) {
				refuses(x, p)
			}
			for _, p := range []string{zone + deep(2*k+1-len(zone), "0"), zone + deep(2*k+1-len(zone), "1")} {
				refuses(x, pathOf(p))
			}
			for i := range len(zone) {
				refuses(x, pathOf(zone[:i]))
				aside, _ := path.Sibling(pathOf(zone[:i+1]))
				refuses(x, aside)
				child, _ := path.Child(aside, 1)
				refuses(x, child)
			}
			same(t, x, m)
		}
	}
}

// P803: Join, of both halves in both orders.
func TestJoin(t *testing.T) {
	for _, k := range []int{1, 2, 5, api.MaxK} {
		for _, zone := range zonesOf(k) {
			if len(zone) == 2*k {
				continue
			}
			for _, l := range [][]point.Rec{nil, rectRecs(k, zone), append(rectRecs(k, zone), heap(rectRecs(k, zone)[0].At, 30)...)} {
				m := &plain{k: k, zone: zone}
				for _, r := range l {
					m.put(r)
				}
				lower, n := made(t, k, zone+"0", m.part(zone+"0").l...)
				upper, o := made(t, k, zone+"1", m.part(zone+"1").l...)
				joinIs(t, lower, upper, m)
				joinIs(t, upper, lower, m)
				same(t, lower, n)
				same(t, upper, o)
			}
		}
	}
}

// joinIs: a tree as the list.
func joinIs(t *testing.T, x, y *quad.Tree, m *plain) {
	t.Helper()
	z, e := x.Join(y)
	if e != api.OK {
		t.Fatalf("K %d: Join of %v and %v: %d", m.k, x.Zone(), y.Zone(), e)
	}
	same(t, z, m)
}

// areSiblings: by their halves.
func areSiblings(a, b string) bool {
	n := len(a) - 1
	return n >= 0 && len(a) == len(b) && a[:n] == b[:n] && a[n] != b[n]
}

// P803: Join, of trees of unlike k, of zones that are not siblings, of a tree and itself; with records and without.
func TestJoinRefuses(t *testing.T) {
	zones := []string{"", "0", "1", "00", "01", "10", "11", "000", "001", "010", "110", "111"}
	for _, a := range zones {
		for _, b := range zones {
			for _, k := range []int{2, 3} {
				if k == 2 && areSiblings(a, b) {
					continue
				}
				x, m := made(t, 2, a, rectRecs(2, a)...)
				y, n := made(t, k, b, rectRecs(k, b)...)
				empty, none := made(t, k, b)
				joinRefuses(t, x, y)
				joinRefuses(t, y, x)
				joinRefuses(t, x, empty)
				joinRefuses(t, empty, x)
				joinRefuses(t, x, x)
				joinRefuses(t, empty, empty)
				same(t, x, m)
				same(t, y, n)
				same(t, empty, none)
			}
		}
	}
}

// P803, P801: a Clone tells the same; what is put into it leaves the other one, and the other way round.
func TestClone(t *testing.T) {
	for _, n := range []int{0, 1, 4, 5, 20} {
		x, m := made(t, 3, "1", heap(cell(5, 2), n)...)
		c, o := x.Clone(), m.copyOf()
		same(t, c, o)
		puts(t, c, o, rec(5, 2, "0"), n > 0)
		puts(t, c, o, rec(5, 2, "new"), false)
		puts(t, c, o, rec(4, 0, "new"), false)
		same(t, x, m)
		puts(t, x, m, rec(7, 7, "own"), false)
		dels(t, x, m, cell(5, 2), "0", n > 0)
		dels(t, x, m, cell(5, 2), "1", n > 1)
		same(t, c, o)
		dels(t, c, o, cell(5, 2), "2", n > 2)
		dels(t, c, o, cell(5, 2), "0", true)
		same(t, x, m)
	}
}
