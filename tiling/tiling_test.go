package tiling_test

import (
	"math"
	"slices"
	"testing"

	"glebe/api"
	"glebe/tiling"
)

// changes: by their names, with a number where one is asked for.
func changes(x *tiling.Tiling, who int) map[string]func(api.Path) api.Errno {
	return map[string]func(api.Path) api.Errno{
		"Add":   func(p api.Path) api.Errno { return x.Add(tiling.Tile{Path: p, Who: who}) },
		"Drop":  x.Drop,
		"Split": func(p api.Path) api.Errno { return x.Split(p, who) },
		"Merge": x.Merge,
		"Give":  func(p api.Path) api.Errno { return x.Give(p, who) },
	}
}

// refused: the change is answered that error, and has changed nothing.
func refused(t *testing.T, x *tiling.Tiling, m *plain, name string, p api.Path, want api.Errno) {
	t.Helper()
	for _, who := range []int{0, 3, -1} {
		if e := changes(x, who)[name](p); e != want {
			t.Fatalf("K %d, of %v: %s of %v = %d, want %d", m.k, m.l, name, p, e, want)
		}
	}
	same(t, x, m)
}

// done: the change is done, and what there is then.
func done(t *testing.T, x *tiling.Tiling, e api.Errno, k int, l ...spot) {
	t.Helper()
	if e != api.OK {
		t.Fatalf("%d, want %v", e, l)
	}
	same(t, x, &plain{k: k, l: l})
}

// P501: of a nil one, and one that New did not make.
func TestOfNone(t *testing.T) {
	var none *tiling.Tiling
	for _, x := range []*tiling.Tiling{none, {}, new(tiling.Tiling)} {
		for _, p := range []api.Path{{}, {Depth: 1}, {Depth: 1, Bits: 1}, {Depth: -1}, {Depth: 2, Bits: 4}, {Depth: 32}, {Depth: math.MaxInt, Bits: math.MinInt}} {
			for name, call := range changes(x, 1) {
				if e := call(p); e != api.ErrArg {
					t.Errorf("%s(%v) = %d", name, p, e)
				}
			}
			if l := x.Under(p); len(l) != 0 {
				t.Errorf("Under(%v) = %v", p, l)
			}
		}
		for _, c := range []api.Point{{}, {X: 1, Y: 1}, {X: -1}, {X: math.MaxInt, Y: math.MinInt}} {
			if s, ok := x.Find(c); ok || s != (tiling.Tile{}) {
				t.Errorf("Find(%v) = %v, %v", c, s, ok)
			}
		}
		if l, gaps := x.List(), x.Gaps(); len(l) != 0 || len(gaps) != 0 || x.Whole() {
			t.Errorf("List %v, Gaps %v, Whole %v", l, gaps, x.Whole())
		}
		if p, ok := x.Deepest(); ok || p != (api.Path{}) {
			t.Errorf("Deepest() = %v, %v", p, ok)
		}
		if c := x.Clone(); c != nil {
			t.Errorf("Clone() = %v", c)
		}
	}
}

// P502: New, of no tile and of one.
func TestNew(t *testing.T) {
	for k := 1; k <= api.MaxK; k++ {
		x, m := made(t, k)
		same(t, x, m)
		for _, text := range []string{"", "0", "1", deep(2*k, "0"), deep(2*k, "1"), deep(2*k-1, "01"), deep(2*k, "10")} {
			for _, who := range someWhos() {
				x, m := made(t, k, spot{text, who})
				same(t, x, m)
			}
		}
	}
}

// deep: a text of so many halves, these over and over.
func deep(n int, halves string) string {
	text := ""
	for i := range n {
		text += halves[i%len(halves) : i%len(halves)+1]
	}
	return text
}

// newRefuses: New answers that error, and no tiling.
func newRefuses(t *testing.T, want api.Errno, k int, l ...tiling.Tile) {
	t.Helper()
	if x, e := tiling.New(k, l...); e != want || x != nil {
		t.Errorf("New(%d, %v) = %v, %d, want %d", k, l, x, e, want)
	}
}

// P502: New, of another k.
func TestNewOfWrongK(t *testing.T) {
	for _, k := range wrongKs() {
		newRefuses(t, api.ErrArg, k)
		newRefuses(t, api.ErrArg, k, tile("", 1))
		newRefuses(t, api.ErrArg, k, tile("0", 1), tile("1", 2))
		newRefuses(t, api.ErrArg, k, tile("0", 1), tile("0", 1))
		newRefuses(t, api.ErrArg, k, tiles(even(api.MaxZones+1))...)
	}
}

// P502: New answers the first error, tile by tile.
func TestNewAnswersFirstError(t *testing.T) {
	wrong := tiling.Tile{Path: api.Path{Depth: -1}}
	newRefuses(t, api.ErrArg, 2, wrong)
	newRefuses(t, api.ErrMeet, 2, tile("0", 1), tile("0", 1), wrong)
	newRefuses(t, api.ErrArg, 2, tile("0", 1), wrong, tile("0", 1))
	newRefuses(t, api.ErrMeet, 2, tile("01", 1), tile("0", 1), tile("10101", 1))
	newRefuses(t, api.ErrArg, 2, tile("01", 1), tile("10101", 1), tile("0", 1))
	newRefuses(t, api.ErrMeet, 2, tile("", 1), tile("1111", 1))
	newRefuses(t, api.ErrMeet, 2, tile("1111", 1), tile("", 1))
	newRefuses(t, api.ErrArg, 2, tile("00000", 1))
	most := tiles(even(api.MaxZones + 1))
	newRefuses(t, api.ErrFull, 4, most...)
	newRefuses(t, api.ErrFull, 4, append(slices.Clone(most), wrong)...)
	newRefuses(t, api.ErrFull, 4, append(slices.Clone(most), most...)...)
	newRefuses(t, api.ErrArg, 4, append(slices.Clone(most[:api.MaxZones]), wrong)...)
	newRefuses(t, api.ErrMeet, 4, append(slices.Clone(most[:api.MaxZones]), most[7])...)
	newRefuses(t, api.ErrArg, 3, most...)
}

// P502: New, of MaxZones tiles, in whatever order they are handed in.
func TestNewOfMaxZones(t *testing.T) {
	l := even(api.MaxZones)
	for _, k := range []int{3, 4, 9, api.MaxK} {
		x, m := made(t, k, l...)
		same(t, x, m)
		back := slices.Clone(l)
		slices.Reverse(back)
		x, m = made(t, k, back...)
		same(t, x, m)
	}
	x, m := made(t, api.MaxK, stair(2*api.MaxK+1, "01")...)
	same(t, x, m)
}

// P502: Add, beside what is there.
func TestAdd(t *testing.T) {
	for _, k := range []int{2, 5, api.MaxK} {
		x, _ := made(t, k, spot{"01", 5})
		done(t, x, x.Add(tile("00", 0)), k, spot{"01", 5}, spot{"00", 0})
		done(t, x, x.Add(tile("1", -4)), k, spot{"01", 5}, spot{"00", 0}, spot{"1", -4})
		x, _ = made(t, k)
		last := deep(2*k, "1")
		done(t, x, x.Add(tile(last, math.MinInt)), k, spot{last, math.MinInt})
		done(t, x, x.Add(tile(last[1:]+"0", math.MaxInt)), k, spot{last, math.MinInt}, spot{last[1:] + "0", math.MaxInt})
		x, _ = made(t, k)
		done(t, x, x.Add(tile("", 9)), k, spot{"", 9})
	}
}

// P502: Add refuses what may not be, and what meets one that is there.
func TestAddRefuses(t *testing.T) {
	for k := 1; k <= api.MaxK; k++ {
		for _, l := range [][]spot{nil, {{"", 3}}, {{"01", 1}}, {{"00", 1}, {"10", 1}}} {
			x, m := made(t, k, l...)
			for _, p := range wrongPaths(k) {
				refused(t, x, m, "Add", p, api.ErrArg)
			}
			for _, s := range l {
				refused(t, x, m, "Add", pathOf(s.text), api.ErrMeet)
				refused(t, x, m, "Add", api.Path{}, api.ErrMeet)
				if len(s.text) > 0 {
					refused(t, x, m, "Add", pathOf(s.text[:1]), api.ErrMeet)
				}
				for len(s.text) < 2*k {
					s.text += "1"
					refused(t, x, m, "Add", pathOf(s.text), api.ErrMeet)
				}
			}
		}
	}
}

// full: MaxZones tiles, and one gap at least: the last one of one more.
func full(t *testing.T, k int) (*tiling.Tiling, *plain, string) {
	t.Helper()
	l := even(api.MaxZones + 1)
	x, m := made(t, k, l[:api.MaxZones]...)
	return x, m, l[api.MaxZones].text
}

// P502: where there are MaxZones, none is added and none is split; what else is named first is answered first.
func TestFull(t *testing.T) {
	for _, k := range []int{4, 7, api.MaxK} {
		x, m, gap := full(t, k)
		there := m.l[0].text
		refused(t, x, m, "Add", pathOf(gap), api.ErrFull)
		refused(t, x, m, "Add", pathOf(gap+"0"), api.ErrFull)
		refused(t, x, m, "Add", pathOf(there), api.ErrMeet)
		refused(t, x, m, "Add", api.Path{}, api.ErrMeet)
		refused(t, x, m, "Add", api.Path{Depth: -1}, api.ErrArg)
		refused(t, x, m, "Add", api.Path{Depth: 2*k + 1}, api.ErrArg)
		refused(t, x, m, "Split", pathOf(there), api.ErrFull)
		refused(t, x, m, "Split", pathOf(gap), api.ErrNone)
		refused(t, x, m, "Split", api.Path{Depth: 2*k + 1}, api.ErrNone)
		for _, who := range someWhos() {
			if e, want := x.Give(pathOf(there), who), m.give(there, who); e != want {
				t.Fatalf("Give(%q, %d) = %d", there, who, e)
			}
			same(t, x, m)
		}
	}
}

// P502: where there was no room, there is some for just one, when one is gone.
func TestRoomAgain(t *testing.T) {
	for _, k := range []int{4, api.MaxK} {
		x, m, gap := full(t, k)
		for range 3 {
			first := m.l[0].text
			both(t, "Drop", x.Drop(pathOf(first)), m.drop(first))
			same(t, x, m)
			both(t, "Add", x.Add(tile(gap, 8)), m.add(gap, 8))
			refused(t, x, m, "Add", pathOf(first), api.ErrFull)
			refused(t, x, m, "Split", pathOf(gap), api.ErrFull)
			pair, _ := m.deepest()
			both(t, "Merge", x.Merge(pathOf(pair)), m.merge(pair))
			same(t, x, m)
			both(t, "Split", x.Split(pathOf(pair), 6), m.split(pair, 6))
			refused(t, x, m, "Add", pathOf(first), api.ErrFull)
			refused(t, x, m, "Split", pathOf(pair+"1"), api.ErrFull)
			gap = first
		}
	}
}

// both: the change is done in the tiling and in the model.
func both(t *testing.T, name string, e, want api.Errno) {
	t.Helper()
	if e != api.OK || want != api.OK {
		t.Fatalf("%s: %d, in the model %d", name, e, want)
	}
}

// P502: the other errors of Split are named ahead of ErrFull.
func TestFullOfCells(t *testing.T) {
	x, m := made(t, 3, even(api.MaxZones)...)
	for _, s := range m.l {
		refused(t, x, m, "Split", pathOf(s.text), api.ErrCell)
	}
	refused(t, x, m, "Split", api.Path{}, api.ErrNone)
	refused(t, x, m, "Split", api.Path{Depth: 5}, api.ErrNone)
	refused(t, x, m, "Split", api.Path{Depth: 7}, api.ErrNone)
	refused(t, x, m, "Add", pathOf(m.l[9].text), api.ErrMeet)
	x, m = made(t, api.MaxK, stair(2*api.MaxK+1, "01")...)
	for len(m.l) < api.MaxZones {
		p := m.l[0].text
		both(t, "Split", x.Split(pathOf(p), 1), m.split(p, 1))
	}
	refused(t, x, m, "Split", pathOf(deep(2*api.MaxK, "01")), api.ErrCell)
	refused(t, x, m, "Split", pathOf(m.l[1].text), api.ErrFull)
}

// P502: Drop, till nothing is left.
func TestDrop(t *testing.T) {
	for _, k := range []int{1, 2, 8, api.MaxK} {
		x, m := made(t, k, stair(2*k+1, "011")...)
		for len(m.l) > 0 {
			p := m.l[len(m.l)/2].text
			if x.Drop(pathOf(p)) != api.OK || m.drop(p) != api.OK {
				t.Fatalf("K %d: Drop of %q", k, p)
			}
			same(t, x, m)
			refused(t, x, m, "Drop", pathOf(p), api.ErrNone)
		}
		done(t, x, x.Add(tile("", 2)), k, spot{"", 2})
		done(t, x, x.Drop(api.Path{}), k)
	}
}

// P502: Drop, Split and Give of what is not there: of none, above a tile, below it, beside it, of what may not be.
func TestOfWhatIsNotThere(t *testing.T) {
	for k := 2; k <= api.MaxK; k++ {
		x, m := made(t, k, spot{"01", 1}, spot{"110", 2})
		empty, none := made(t, k)
		for _, name := range []string{"Drop", "Split", "Give"} {
			for _, text := range []string{"", "0", "00", "010", "011", "0100", "1", "11", "10", "111", "1100", "1101", deep(2*k, "1"), deep(2*k, "01")} {
				refused(t, x, m, name, pathOf(text), api.ErrNone)
				refused(t, empty, none, name, pathOf(text), api.ErrNone)
			}
			for _, p := range wrongPaths(k) {
				refused(t, x, m, name, p, api.ErrNone)
				refused(t, empty, none, name, p, api.ErrNone)
			}
		}
	}
}

// P502: Split, of whatever number.
func TestSplit(t *testing.T) {
	for k := 1; k <= api.MaxK; k++ {
		for _, who := range someWhos() {
			x, _ := made(t, k, spot{"", 4})
			done(t, x, x.Split(api.Path{}, who), k, spot{"0", 4}, spot{"1", who})
			done(t, x, x.Split(pathOf("1"), 5), k, spot{"0", 4}, spot{"10", who}, spot{"11", 5})
			last := deep(2*k-1, "01")
			x, m := made(t, k, spot{last, who})
			done(t, x, x.Split(pathOf(last), who), k, spot{last + "0", who}, spot{last + "1", who})
			m.l = []spot{{last + "0", who}, {last + "1", who}}
			refused(t, x, m, "Split", pathOf(last+"0"), api.ErrCell)
			refused(t, x, m, "Split", pathOf(last+"1"), api.ErrCell)
		}
	}
}

// P502: Split beside others: they stay as they are.
func TestSplitBesideOthers(t *testing.T) {
	x, _ := made(t, 2, spot{"00", 1}, spot{"011", 2}, spot{"1", 3})
	done(t, x, x.Split(pathOf("00"), 9), 2, spot{"000", 1}, spot{"001", 9}, spot{"011", 2}, spot{"1", 3})
	done(t, x, x.Split(pathOf("011"), -9), 2, spot{"000", 1}, spot{"001", 9}, spot{"0110", 2}, spot{"0111", -9}, spot{"1", 3})
}

// P502: Merge has the lower half's number.
func TestMerge(t *testing.T) {
	for k := 1; k <= api.MaxK; k++ {
		for _, who := range someWhos() {
			x, _ := made(t, k, spot{"1", 4}, spot{"0", who})
			done(t, x, x.Merge(api.Path{}), k, spot{"", who})
			parent := deep(2*k-1, "110")
			x, _ = made(t, k, spot{parent + "1", 4}, spot{parent + "0", who})
			done(t, x, x.Merge(pathOf(parent)), k, spot{parent, who})
		}
	}
	x, _ := made(t, 2, spot{"000", 1}, spot{"001", 9}, spot{"0110", 2}, spot{"0111", -9}, spot{"1", 3})
	done(t, x, x.Merge(pathOf("011")), 2, spot{"000", 1}, spot{"001", 9}, spot{"011", 2}, spot{"1", 3})
	done(t, x, x.Merge(pathOf("00")), 2, spot{"00", 1}, spot{"011", 2}, spot{"1", 3})
}

// P502: Merge refuses what may not be, and a path whose two children are not both there.
func TestMergeRefuses(t *testing.T) {
	for k := 2; k <= api.MaxK; k++ {
		for _, l := range [][]spot{
			nil, {{"", 1}}, {{"0", 1}}, {{"1", 1}}, {{"00", 1}, {"01", 2}, {"10", 3}, {"11", 4}},
			{{"00", 1}, {"01", 2}, {"1", 3}}, {{"0", 1}, {"10", 3}, {"11", 4}}, {{"0", 1}, {"100", 2}}, {{deep(2*k, "1"), 1}, {deep(2*k-1, "1") + "0", 2}},
		} {
			x, m := made(t, k, l...)
			refused(t, x, m, "Merge", api.Path{}, api.ErrNone)
			for _, p := range wrongPaths(k) {
				refused(t, x, m, "Merge", p, api.ErrNone)
			}
			for _, s := range l {
				refused(t, x, m, "Merge", pathOf(s.text), api.ErrNone)
			}
			for _, text := range []string{"000", "100", deep(2*k, "1"), deep(2*k-1, "1") + "0", deep(2*k, "0"), deep(2*k-1, "01")} {
				refused(t, x, m, "Merge", pathOf(text), api.ErrNone)
			}
		}
	}
	x, m := made(t, 2, spot{"00", 1}, spot{"01", 2}, spot{"10", 3})
	refused(t, x, m, "Merge", pathOf("1"), api.ErrNone)
	x, m = made(t, 2, spot{"00", 1}, spot{"01", 2}, spot{"110", 3}, spot{"111", 3}, spot{"10", 4})
	refused(t, x, m, "Merge", pathOf("1"), api.ErrNone)
	x, m = made(t, 2, spot{"000", 1}, spot{"001", 2}, spot{"01", 4})
	refused(t, x, m, "Merge", pathOf("0"), api.ErrNone)
}

// P502: Give, of another number and of the one that it has.
func TestGive(t *testing.T) {
	for k := 1; k <= api.MaxK; k++ {
		x, _ := made(t, k, spot{"", 3})
		for _, who := range someWhos() {
			done(t, x, x.Give(api.Path{}, who), k, spot{"", who})
			done(t, x, x.Give(api.Path{}, who), k, spot{"", who})
		}
		last := deep(2*k, "10")
		x, _ = made(t, k, spot{"0", 3}, spot{last, 3})
		done(t, x, x.Give(pathOf(last), 4), k, spot{"0", 3}, spot{last, 4})
		done(t, x, x.Give(pathOf("0"), 5), k, spot{"0", 5}, spot{last, 4})
	}
}

// found: what Find has to answer.
func found(t *testing.T, x *tiling.Tiling, c api.Point, want tiling.Tile, some bool) {
	t.Helper()
	if s, ok := x.Find(c); s != want || ok != some {
		t.Errorf("Find(%v) = %v, %v, want %v, %v", c, s, ok, want, some)
	}
}

// P503: Find, of a cell in a tile, in a gap, and of no cell.
func TestFind(t *testing.T) {
	for k := 2; k <= api.MaxK; k++ {
		n := side(k)
		x, _ := made(t, k, spot{"01", 7}, spot{"1", 0}, spot{deep(2*k, "0"), -3})
		found(t, x, api.Point{X: 0, Y: n / 2}, tile("01", 7), true)
		found(t, x, api.Point{X: n/2 - 1, Y: n - 1}, tile("01", 7), true)
		found(t, x, api.Point{X: n / 2, Y: n - 1}, tile("1", 0), true)
		found(t, x, api.Point{X: n - 1, Y: 0}, tile("1", 0), true)
		found(t, x, api.Point{}, tile(deep(2*k, "0"), -3), true)
		found(t, x, api.Point{X: 1, Y: 0}, tiling.Tile{}, false)
		found(t, x, api.Point{X: 0, Y: 1}, tiling.Tile{}, false)
		found(t, x, api.Point{X: n/2 - 1, Y: n/2 - 1}, tiling.Tile{}, false)
		for _, c := range noCells(k) {
			found(t, x, c, tiling.Tile{}, false)
		}
	}
	empty, _ := made(t, 1)
	found(t, empty, api.Point{X: 1, Y: 1}, tiling.Tile{}, false)
	found(t, empty, api.Point{X: 2, Y: 1}, tiling.Tile{}, false)
	whole, _ := made(t, 1, spot{"", 6})
	found(t, whole, api.Point{X: 1, Y: 1}, tile("", 6), true)
	found(t, whole, api.Point{X: 2, Y: 1}, tiling.Tile{}, false)
	found(t, whole, api.Point{X: -1, Y: -1}, tiling.Tile{}, false)
}

// P503: Under, with tiles below, with one just there, with one only above, with none; List has all.
func TestUnder(t *testing.T) {
	l := []spot{{"11", 1}, {"0110", 2}, {"00", 3}, {"0111", 4}}
	for k := 2; k <= api.MaxK; k++ {
		x, _ := made(t, k, l...)
		for text, want := range map[string][]spot{
			"": {{"00", 3}, {"0110", 2}, {"0111", 4}, {"11", 1}}, "0": {{"00", 3}, {"0110", 2}, {"0111", 4}}, "01": {{"0110", 2}, {"0111", 4}}, "011": {{"0110", 2}, {"0111", 4}},
			"1": {{"11", 1}}, "11": {{"11", 1}}, "00": {{"00", 3}}, "0110": {{"0110", 2}}, "0111": {{"0111", 4}},
			"000": nil, "001": nil, "110": nil, "1111": nil, "10": nil, "010": nil, "0101": nil, "01100": nil, deep(2*k, "1"): nil, deep(2*k, "0"): nil,
		} {
			if got := x.Under(pathOf(text)); !slices.Equal(got, tiles(want)) {
				t.Errorf("K %d: Under(%q) = %v", k, text, got)
			}
		}
		for _, p := range wrongPaths(k) {
			if got := x.Under(p); len(got) != 0 {
				t.Errorf("K %d: Under(%v) = %v", k, p, got)
			}
		}
		if got := x.List(); !slices.Equal(got, []tiling.Tile{tile("00", 3), tile("0110", 2), tile("0111", 4), tile("11", 1)}) {
			t.Errorf("K %d: List() = %v", k, got)
		}
	}
	x, m := made(t, 2)
	same(t, x, m)
	x, m = made(t, 2, spot{"", -1})
	same(t, x, m)
}

// gapsAre: what Gaps and Whole have to answer.
func gapsAre(t *testing.T, k int, l []spot, want ...string) {
	t.Helper()
	x, _ := made(t, k, l...)
	if got := x.Gaps(); !slices.Equal(got, pathsOf(want)) || x.Whole() != (len(want) == 0) {
		t.Errorf("K %d, of %v: Gaps() = %v, Whole() = %v, want %v", k, l, got, x.Whole(), want)
	}
}

// P503: Gaps and Whole, of no tile, of one, of a deep one, and of whole tilings.
func TestGaps(t *testing.T) {
	for k := 1; k <= api.MaxK; k++ {
		gapsAre(t, k, nil, "")
		gapsAre(t, k, []spot{{"", 1}})
		gapsAre(t, k, []spot{{"0", 1}}, "1")
		gapsAre(t, k, []spot{{"1", 1}}, "0")
		gapsAre(t, k, []spot{{"1", 1}, {"0", 1}})
		gapsAre(t, k, []spot{{"10", 1}}, "0", "11")
		gapsAre(t, k, []spot{{"10", 1}, {"01", 1}}, "00", "11")
		last, beside := deep(2*k, "0"), []string{}
		for i := 2*k - 1; i >= 0; i-- {
			beside = append(beside, last[:i]+"1")
		}
		gapsAre(t, k, []spot{{last, 1}}, beside...)
		all := stair(2*k+1, "100")
		gapsAre(t, k, all)
		for i := range all {
			gapsAre(t, k, slices.Delete(slices.Clone(all), i, i+1), all[i].text)
		}
		gapsAre(t, k, all[:len(all)-2], all[len(all)-1].text[:2*k-1])
	}
	for _, n := range []int{2, 3, 16, 63, api.MaxZones} {
		gapsAre(t, 3, even(n))
	}
}

// P503: Gaps, when tiles are gone again: what is left is as if they had never been.
func TestGapsBehindDrop(t *testing.T) {
	x, _ := made(t, 3, spot{"001101", 1}, spot{"001110", 2}, spot{"1", 3})
	done(t, x, x.Drop(pathOf("001101")), 3, spot{"001110", 2}, spot{"1", 3})
	done(t, x, x.Drop(pathOf("001110")), 3, spot{"1", 3})
	gaps := x.Gaps()
	if !slices.Equal(gaps, []api.Path{{Depth: 1}}) {
		t.Errorf("Gaps() = %v", gaps)
	}
	done(t, x, x.Drop(pathOf("1")), 3)
	done(t, x, x.Add(tile("", 5)), 3, spot{"", 5})
}

// deepestIs: what Deepest has to answer; none of "none".
func deepestIs(t *testing.T, want string, l ...spot) {
	t.Helper()
	for _, k := range []int{2, 3, api.MaxK} {
		x, _ := made(t, k, l...)
		p, ok := x.Deepest()
		if want == "none" && (ok || p != api.Path{}) || want != "none" && (!ok || p != pathOf(want)) {
			t.Errorf("K %d, of %v: Deepest() = %v, %v, want %s", k, l, p, ok, want)
		}
	}
}

// P503: Deepest, with one pair, with several, with a deep tile whose Sibling is none, with none.
func TestDeepest(t *testing.T) {
	deepestIs(t, "none")
	deepestIs(t, "none", spot{"", 1})
	deepestIs(t, "none", spot{"0", 1})
	deepestIs(t, "none", spot{"1", 1})
	deepestIs(t, "", spot{"0", 1}, spot{"1", 2})
	deepestIs(t, "0", spot{"00", 1}, spot{"01", 2})
	deepestIs(t, "1", spot{"0", 1}, spot{"10", 2}, spot{"11", 3})
	deepestIs(t, "0", spot{"10", 1}, spot{"11", 2}, spot{"00", 3}, spot{"01", 4})
	deepestIs(t, "11", spot{"00", 1}, spot{"01", 2}, spot{"10", 3}, spot{"110", 4}, spot{"111", 5})
	deepestIs(t, "00", spot{"000", 1}, spot{"001", 2}, spot{"01", 2}, spot{"10", 3}, spot{"110", 4}, spot{"111", 5})
	deepestIs(t, "10", spot{"010", 1}, spot{"110", 1}, spot{"111", 1}, spot{"101", 2}, spot{"100", 3})
	deepestIs(t, "1", spot{"0111", 1}, spot{"10", 2}, spot{"11", 3})
	deepestIs(t, "1", spot{"0000", 1}, spot{"0010", 1}, spot{"10", 2}, spot{"11", 3})
	deepestIs(t, "", spot{"0", 1}, spot{"1", 2})
	deepestIs(t, "none", spot{"0", 1}, spot{"11", 2})
	deepestIs(t, "none", spot{"00", 1}, spot{"1", 2}, spot{"0110", 3})
	deepestIs(t, "none", spot{"01", 1}, spot{"10", 2})
	deepestIs(t, "111", spot{"0", 1}, spot{"10", 2}, spot{"110", 3}, spot{"1110", 4}, spot{"1111", 5})
}

// The chapter's example.
func TestExample(t *testing.T) {
	x, _ := made(t, 1, spot{"", 1})
	done(t, x, x.Split(api.Path{}, 2), 1, spot{"0", 1}, spot{"1", 2})
	if l := x.List(); !slices.Equal(l, []tiling.Tile{{Path: api.Path{Depth: 1}, Who: 1}, {Path: api.Path{Depth: 1, Bits: 1}, Who: 2}}) {
		t.Errorf("List() = %v", l)
	}
}
