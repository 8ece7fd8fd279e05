package tiling_test

import (
	"math"
	"math/rand"
	"slices"
	"testing"

	"glebe/api"
	"glebe/path"
	"glebe/tiling"
	"glebe/torus"
)

// act: a change that is drawn.
type act struct {
	name, text string
	who        int
}

// draw: a path where something is, or near it, and what to do with it; splits come more often while the tilings are to grow.
func draw(r *rand.Rand, m *plain, growing bool) act {
	names := []string{"Add", "Drop", "Split", "Merge", "Give", "Merge", "Drop"}
	if growing {
		names = []string{"Add", "Drop", "Split", "Merge", "Give", "Add", "Split", "Split", "Split", "Add"}
	}
	l := m.someTexts()
	a := act{names[r.Intn(len(names))], l[r.Intn(len(l))], r.Intn(7) - 3}
	if gaps := m.gaps(); a.name == "Add" && len(gaps) > 0 && r.Intn(2) == 0 {
		a.text = gaps[r.Intn(len(gaps))]
	}
	if len(m.l) > 0 && (a.name == "Split" || a.name == "Drop") && r.Intn(3) > 0 {
		a.text = m.l[r.Intn(len(m.l))].text
	}
	if r.Intn(9) == 0 {
		a.text += deep(r.Intn(2*m.k+2), "0110")
	}
	return a
}

// do: the act in the model.
func (m *plain) do(a act) api.Errno {
	switch a.name {
	case "Add":
		return m.add(a.text, a.who)
	case "Drop":
		return m.drop(a.text)
	case "Split":
		return m.split(a.text, a.who)
	case "Merge":
		return m.merge(a.text)
	}
	return m.give(a.text, a.who)
}

// outcome: how an act may end.
type outcome struct {
	name string
	e    api.Errno
}

// allOutcomes: that the chapter names.
func allOutcomes() []outcome {
	return []outcome{
		{"Add", api.OK}, {"Add", api.ErrArg}, {"Add", api.ErrMeet}, {"Add", api.ErrFull}, {"Drop", api.OK}, {"Drop", api.ErrNone},
		{"Split", api.OK}, {"Split", api.ErrNone}, {"Split", api.ErrCell}, {"Split", api.ErrFull}, {"Merge", api.OK}, {"Merge", api.ErrNone}, {"Give", api.OK}, {"Give", api.ErrNone},
	}
}

// drive: so many drawn acts; each is answered as in the list, which tells the same behind it.
func drive(t *testing.T, r *rand.Rand, x *tiling.Tiling, m *plain, acts int, seen map[outcome]int) {
	t.Helper()
	for i := range acts {
		a := draw(r, m, i < acts*3/4)
		want := m.do(a)
		if e := changes(x, a.who)[a.name](pathOf(a.text)); e != want {
			t.Fatalf("K %d, then %v: %v = %d, want %d", m.k, m.l, a, e, want)
		}
		same(t, x, m)
		seen[outcome{a.name, want}]++
	}
}

// P502, P503: drawn acts, held against a plain list of tiles.
func TestDrawnActs(t *testing.T) {
	seen := map[outcome]int{}
	for _, k := range []int{1, 2, 3, 4, 7, api.MaxK} {
		for seed := range 2 {
			r := rand.New(rand.NewSource(int64(100*k + seed)))
			x, m := made(t, k)
			drive(t, r, x, m, 200*min(k, 3), seen)
		}
	}
	for _, o := range allOutcomes() {
		if seen[o] == 0 {
			t.Errorf("no %s that is answered %d was drawn", o.name, o.e)
		}
	}
}

// P501, P503: a Clone stays, while the other one is changed, and the other way round.
func TestCloneIsApart(t *testing.T) {
	for _, k := range []int{1, 3, api.MaxK} {
		r := rand.New(rand.NewSource(int64(k)))
		for _, l := range [][]spot{nil, {{"", 1}}, {{"00", 1}, {"01", 2}, {"1", 3}}, {{"10", -1}}, stair(2*k+1, "01")} {
			x, m := made(t, k, l...)
			c, n := x.Clone(), m.copyOf()
			same(t, c, n)
			drive(t, r, x, m, 40, map[outcome]int{})
			same(t, c, n)
			drive(t, r, c, n, 40, map[outcome]int{})
			same(t, x, m)
			c, n = c.Clone(), n.copyOf()
			drive(t, r, c, n, 40, map[outcome]int{})
			same(t, x, m)
		}
	}
}

// P501: each single change of one leaves the other one.
func TestCloneOfEachChange(t *testing.T) {
	l := []spot{{"00", 1}, {"01", 2}, {"10", 3}}
	for _, a := range []act{{"Add", "11", 9}, {"Add", "110", 9}, {"Drop", "01", 0}, {"Split", "10", 9}, {"Split", "00", 9}, {"Merge", "0", 0}, {"Give", "01", 9}} {
		x, m := made(t, 2, l...)
		c, n := x.Clone(), m.copyOf()
		both(t, a.name, changes(x, a.who)[a.name](pathOf(a.text)), m.do(a))
		same(t, x, m)
		same(t, c, n)
		x, m = made(t, 2, l...)
		c, n = x.Clone(), m.copyOf()
		both(t, a.name, changes(c, a.who)[a.name](pathOf(a.text)), n.do(a))
		same(t, x, m)
		same(t, c, n)
	}
}

// P501: two tilings of one list have nothing to do with one another.
func TestTwoTilings(t *testing.T) {
	x, m := made(t, 2, spot{"0", 1}, spot{"1", 2})
	y, n := made(t, 2, spot{"0", 1}, spot{"1", 2})
	drive(t, rand.New(rand.NewSource(5)), x, m, 30, map[outcome]int{})
	same(t, y, n)
}

// P501: a list that was answered is its caller's: changed, and what is behind it, it changes nothing.
func TestAnsweredListsAreApart(t *testing.T) {
	for _, k := range []int{2, 3, api.MaxK} {
		for _, l := range [][]spot{nil, {{"", 1}}, {{"00", 1}, {"01", 2}, {"110", 3}}, {{"0", 1}, {"1", 2}}} {
			x, m := made(t, k, l...)
			kept, others := x.List(), x.Gaps()
			for _, spoilt := range [][]tiling.Tile{x.List(), x.Under(api.Path{}), x.Under(pathOf("0"))} {
				for i := range spoilt[:cap(spoilt)] {
					spoilt[:cap(spoilt)][i] = tile("1111", 77)
				}
			}
			gaps := x.Gaps()
			for i := range gaps[:cap(gaps)] {
				gaps[:cap(gaps)][i] = pathOf("1111")
			}
			same(t, x, m)
			if !slices.Equal(kept, tiles(m.under(""))) || !slices.Equal(others, pathsOf(m.gaps())) {
				t.Errorf("K %d, of %v: what was answered before is now %v, %v", k, l, kept, others)
			}
			for _, p := range []string{"0000", "0001", "0100", "1101", "1111"} {
				x.Drop(pathOf(p[:2]))
				x.Split(api.Path{}, 5)
				x.Add(tile(p, 4))
			}
			if !slices.Equal(kept, tiles(m.under(""))) || !slices.Equal(others, pathsOf(m.gaps())) {
				t.Errorf("K %d, of %v: behind changes what was answered before is %v, %v", k, l, kept, others)
			}
		}
	}
}

// P501: what is handed in is neither changed, nor the room behind it, nor kept.
func TestHandedInIsNotKept(t *testing.T) {
	room := append(tiles([]spot{{"11", 1}, {"00", 2}, {"10", 3}}), tile("0111", 8), tile("0110", 9))
	was := slices.Clone(room)
	x, e := tiling.New(2, room[:3]...)
	m := &plain{k: 2, l: []spot{{"11", 1}, {"00", 2}, {"10", 3}}}
	if e != api.OK || !slices.Equal(room, was) {
		t.Fatalf("New: %d, of what was handed in is left %v", e, room)
	}
	same(t, x, m)
	for i := range room {
		room[i] = tile("1", 66)
	}
	same(t, x, m)
	spoilt := slices.Clone(room)
	drive(t, rand.New(rand.NewSource(2)), x, m, 60, map[outcome]int{})
	if !slices.Equal(room, spoilt) {
		t.Errorf("changes of the tiling have changed what was handed in: %v", room)
	}
}

// havers: how many of these zones have the cell, by At.
func havers(t *testing.T, k int, c api.Point, zones []api.Path) int {
	t.Helper()
	n := 0
	for _, p := range zones {
		q, e := path.At(torus.Torus{K: k}, c, p.Depth)
		if e != api.OK {
			t.Fatalf("K %d: At(%v, %d): %d", k, c, p.Depth, e)
		}
		if q == p {
			n++
		}
	}
	return n
}

// zonesOf: of tiles and gaps.
func zonesOf(x *tiling.Tiling) []api.Path {
	l := x.Gaps()
	for _, s := range x.List() {
		l = append(l, s.Path)
	}
	return l
}

// once: no two zones meet, they have as many cells as there are, and each of these cells is in just one.
func once(t *testing.T, k int, x *tiling.Tiling, cells []api.Point) {
	t.Helper()
	zones, area := zonesOf(x), 0
	for i, p := range zones {
		_, w, h := path.Corner(torus.Torus{K: k}, p)
		area += w * h
		for _, q := range zones[:i] {
			if path.Meet(p, q) {
				t.Fatalf("K %d: %v and %v", k, p, q)
			}
		}
	}
	if area != side(k)*side(k) {
		t.Fatalf("K %d: %v have %d cells", k, zones, area)
	}
	for _, c := range cells {
		if n := havers(t, k, c, zones); n != 1 {
			t.Fatalf("K %d: %v is in %d of %v", k, c, n, zones)
		}
	}
}

// P504: each cell is in just one zone, of a tile or of a gap; Find tells the tile's.
func TestOnce(t *testing.T) {
	for _, k := range []int{1, 2, 3, 4, 9, api.MaxK} {
		r := rand.New(rand.NewSource(int64(k)))
		x, m := made(t, k)
		for i := range 300 {
			a := draw(r, m, i < 200)
			m.do(a)
			changes(x, a.who)[a.name](pathOf(a.text))
			cells := m.someCells()
			if k <= 4 {
				cells = allCells(k)
			}
			once(t, k, x, cells)
			for _, c := range cells {
				s, ok := x.Find(c)
				if ok != (havers(t, k, c, pathsIn(x.List())) == 1) || ok && havers(t, k, c, []api.Path{s.Path}) != 1 {
					t.Fatalf("K %d, of %v: Find(%v) = %v, %v", k, m.l, c, s, ok)
				}
			}
		}
	}
}

// pathsIn: of tiles.
func pathsIn(l []tiling.Tile) []api.Path {
	var all []api.Path
	for _, s := range l {
		all = append(all, s.Path)
	}
	return all
}

// P505: Merge of a path that was Split is as it was, whatever the number of the upper half.
func TestThereAndBack(t *testing.T) {
	for _, k := range []int{1, 2, 5, api.MaxK} {
		r := rand.New(rand.NewSource(int64(k)))
		x, m := made(t, k)
		for i := range 120 {
			a := draw(r, m, i < 80)
			m.do(a)
			changes(x, a.who)[a.name](pathOf(a.text))
			was, gaps := x.List(), x.Gaps()
			for j, s := range was {
				if e := x.Split(s.Path, someWhos()[j%len(someWhos())]); e != api.OK {
					continue
				}
				if len(x.List()) != len(was)+1 {
					t.Fatalf("K %d: Split of %v in %v", k, s, was)
				}
				if e := x.Merge(s.Path); e != api.OK || !slices.Equal(x.List(), was) || !slices.Equal(x.Gaps(), gaps) {
					t.Fatalf("K %d: Split and Merge (%d) of %v in %v: %v", k, e, s, was, x.List())
				}
			}
			same(t, x, m)
		}
	}
}

// P505: all the way down, and all the way up again.
func TestDownAndUp(t *testing.T) {
	for k := 1; k <= api.MaxK; k++ {
		x, m := made(t, k, spot{"", -6})
		way := ""
		for i := range 2 * k {
			both(t, "Split", x.Split(pathOf(way), i), m.split(way, i))
			same(t, x, m)
			way += "0"
		}
		for way != "" {
			way = way[1:]
			both(t, "Merge", x.Merge(pathOf(way)), m.merge(way))
			same(t, x, m)
		}
		done(t, x, api.OK, k, spot{"", -6})
	}
}

// hasDeepest: of a whole tiling of more than one tile: both its children are tiles, and no tile is deeper.
func hasDeepest(t *testing.T, k int, x *tiling.Tiling) {
	t.Helper()
	l := pathsIn(x.List())
	p, ok := x.Deepest()
	if !x.Whole() || !ok {
		t.Fatalf("K %d, of %v: Whole %v, Deepest %v, %v", k, l, x.Whole(), p, ok)
	}
	for bit := range 2 {
		if c, e := path.Child(p, bit); e != api.OK || !slices.Contains(l, c) {
			t.Fatalf("K %d, of %v: Deepest %v", k, l, p)
		}
	}
	for _, q := range l {
		if q.Depth > p.Depth+1 {
			t.Fatalf("K %d, of %v: Deepest %v", k, l, p)
		}
	}
}

// P506: of whole tilings that were split at drawn tiles, and are merged again at each Deepest one.
func TestDeepestOfWhole(t *testing.T) {
	for _, k := range []int{1, 2, 3, 4, 8, api.MaxK} {
		for seed := range 20 {
			r := rand.New(rand.NewSource(int64(seed)))
			x, _ := made(t, k, spot{"", 0})
			for i := range 100 {
				l := x.List()
				s := l[r.Intn(len(l))]
				if seed%2 == 0 { // the deepest one of a few
					for range 4 {
						if o := l[r.Intn(len(l))]; o.Path.Depth > s.Path.Depth {
							s = o
						}
					}
				}
				x.Split(s.Path, i)
				hasDeepest(t, k, x)
			}
			for len(x.List()) > 1 {
				hasDeepest(t, k, x)
				p, _ := x.Deepest()
				if e := x.Merge(p); e != api.OK {
					t.Fatalf("K %d: Merge(%v) of Deepest: %d", k, p, e)
				}
			}
			if p, ok := x.Deepest(); ok || p != (api.Path{}) || !x.Whole() {
				t.Fatalf("K %d: of the whole torus alone: %v, %v", k, p, ok)
			}
		}
	}
}

// P506: of the deepest tilings that there are.
func TestDeepestOfStairs(t *testing.T) {
	for k := 1; k <= api.MaxK; k++ {
		for _, halves := range []string{"0", "1", "01", "10", "001", "1101"} {
			for n := 2; n <= 2*k+1; n++ {
				x, _ := made(t, k, stair(n, halves)...)
				hasDeepest(t, k, x)
				if p, _ := x.Deepest(); p != pathOf(deep(n-2, halves)) {
					t.Fatalf("K %d, of %d along %q: Deepest %v", k, n, halves, p)
				}
			}
		}
	}
}

// P7: there is an answer, whatever is asked, and it has changed nothing.
func TestAnything(t *testing.T) {
	numbers := []int{math.MinInt, -1, 0, 1, 2, 3, 32, 33, 63, 64, 1 << 32, math.MaxInt}
	for _, k := range []int{1, 2, api.MaxK} {
		x, m := made(t, k, stair(2*k+1, "01")...)
		for _, depth := range numbers {
			for _, bits := range numbers {
				p := api.Path{Depth: depth, Bits: bits}
				if path.Right(k, p) {
					continue
				}
				for _, name := range []string{"Drop", "Split", "Merge", "Give"} {
					if e := changes(x, bits)[name](p); e != api.ErrNone {
						t.Fatalf("K %d: %s(%v) = %d", k, name, p, e)
					}
				}
				if e := x.Add(tiling.Tile{Path: p, Who: bits}); e != api.ErrArg {
					t.Fatalf("K %d: Add of %v = %d", k, p, e)
				}
				if l := x.Under(p); len(l) != 0 {
					t.Fatalf("K %d: Under(%v) = %v", k, p, l)
				}
				c := api.Point{X: depth, Y: bits}
				if s, ok := x.Find(c); ok != (torus.Torus{K: k}).Has(c) {
					t.Fatalf("K %d: Find(%v) = %v, %v", k, c, s, ok)
				}
			}
		}
		same(t, x, m)
	}
}

// told: what a tiling tells.
func told(x *tiling.Tiling) ([]tiling.Tile, []api.Path) {
	p, ok := x.Deepest()
	gaps := x.Gaps()
	if ok {
		gaps = append(gaps, p)
	}
	return x.List(), gaps
}

// P8: the same acts have the same answers, and looks between them change nothing.
func TestAgain(t *testing.T) {
	for _, k := range []int{2, 4, api.MaxK} {
		r := rand.New(rand.NewSource(int64(k)))
		x, m := made(t, k)
		y, _ := made(t, k)
		for i := range 200 {
			a := draw(r, m, i < 150)
			m.do(a)
			e, f := changes(x, a.who)[a.name](pathOf(a.text)), changes(y, a.who)[a.name](pathOf(a.text))
			told(y)
			l, gaps := told(x)
			again, others := told(x)
			if e != f || !slices.Equal(l, again) || !slices.Equal(gaps, others) {
				t.Fatalf("K %d: %v = %d, then %d; %v, then %v", k, a, e, f, l, again)
			}
		}
		same(t, y, m)
	}
}
