package atlas_test

import (
	"math"
	"slices"
	"testing"

	"glebe/api"
	"glebe/atlas"
	"glebe/message"
	"glebe/path"
	"glebe/tiling"
)

// P1402: New, of each k that there is, is an atlas of nothing.
func TestNew(t *testing.T) {
	for k := 1; k <= api.MaxK; k++ {
		a, m := made(t, k)
		same(t, a, m)
		if a.Whole() || len(a.Round(api.Path{})) != 0 || len(a.Members()) != 0 {
			t.Errorf("K %d: of nothing: %v", k, a.List())
		}
	}
}

// P1402: New, of a k below the least one, above the greatest one, and far from both.
func TestNewOfNoK(t *testing.T) {
	for _, k := range wrongKs() {
		if a, e := atlas.New(k); a != nil || e != api.ErrArg {
			t.Errorf("New(%d) = %v, %d", k, a, e)
		}
	}
}

// P1402: Learn of zones of each depth that k has, and of no more.
func TestLearnOfEachDepth(t *testing.T) {
	for k := 1; k <= api.MaxK; k++ {
		for depth := range 2*k + 1 {
			for _, halves := range []string{"0", "1", "01", "110"} {
				z := zone(deep(depth, halves), 1, 7, 0, 5)
				a, m := made(t, k, z)
				same(t, a, m)
				has(t, a, k, z)
			}
		}
		a, m := made(t, k)
		refused(t, a, m, zone(deep(2*k+1, "01"), 1, 0))
		refused(t, a, m, zone(deep(2*k+2, "1"), 1, 0))
	}
}

// P1402: Learn of zones whose paths may not be of k; some may be of a greater one.
func TestLearnOfNoPath(t *testing.T) {
	for k := 1; k <= api.MaxK; k++ {
		for _, l := range [][]message.Zone{nil, {zone("", 1, 0)}, {zone("01", 1, 0, 2), zone("1", 5, 3)}} {
			a, m := made(t, k, l...)
			for _, p := range wrongPaths(k) {
				refused(t, a, m, message.Zone{Path: p, Epoch: 9, Holder: 1})
			}
		}
	}
}

// wrongZones: none of them may be, for one thing each.
func wrongZones() []message.Zone {
	l := []message.Zone{
		zone("0", 9, 1, 1), zone("0", 9, 1, 2, 1), zone("0", 9, 1, 2, 2), zone("0", 9, 1, 2, 3, 2), zone("0", 9, 1, 0, 1, 2, 3, 4, 5, 6, 7), zone("0", 9, 1, 0, 2, 3, 4, 5, 6, 7, 8),
		{Path: pathOf("0"), Epoch: 9, Holder: 1, Chain: make([]int, 100000)}, {},
	}
	for _, n := range noNodes() {
		l = append(l, zone("0", 9, n), zone("0", 9, n, 1), zone("0", 9, 1, n), zone("0", 9, 1, 2, n), zone("0", 9, 1, n, n))
	}
	for _, epoch := range []int{0, -1, math.MinInt, lastEpoch + 1, lastEpoch + 2, math.MaxInt} {
		l = append(l, zone("0", epoch, 1), zone("", epoch, 1, 2))
	}
	for _, p := range noPaths() {
		l = append(l, message.Zone{Path: p, Epoch: 9, Holder: 1})
	}
	return l
}

// P1402: Learn of zones that may not be.
func TestLearnOfNoZone(t *testing.T) {
	for _, k := range []int{1, 2, api.MaxK} {
		for _, l := range [][]message.Zone{nil, {zone("", 1, 0)}, {zone("01", 1, 0, 2), zone("1", 5, 3)}} {
			a, m := made(t, k, l...)
			for _, z := range wrongZones() {
				if zoneIs(z) {
					t.Fatalf("%v may be", z)
				}
				refused(t, a, m, z)
			}
		}
	}
}

// P1402: Learn of zones that may be just so.
func TestLearnOfTheLastOnes(t *testing.T) {
	for _, z := range []message.Zone{
		zone("0", 1, 0), zone("0", lastEpoch, 7), zone("0", 1, 3, 0, 1, 2, 4, 5, 6, 7), zone("0", 2, 3, 7, 6, 5, 4, 2, 1, 0), zone("0", lastEpoch, 0, 7),
		{Path: pathOf("0"), Epoch: 3, Chain: []int{}}, {Path: pathOf("0"), Epoch: 3, Chain: nil},
	} {
		a, m := made(t, 1, z)
		same(t, a, m)
		has(t, a, 1, z)
	}
}

// P1402: Learn of a zone that meets one with a lesser Epoch, with the same and with a greater one: of the same path, above it, below it.
func TestLearnOfWhatMeets(t *testing.T) {
	for _, k := range []int{2, 3, api.MaxK} {
		for _, text := range []string{"01", "", "0", "010", "0110", "011"} {
			there := zone("01", 5, 1, 2)
			for _, epoch := range []int{1, 4, 5, 6, 7, lastEpoch} {
				a, m := made(t, k, there)
				z := zone(text, epoch, 3, 4)
				if epoch <= 5 {
					refused(t, a, m, z)
					has(t, a, k, there)
				} else {
					learned(t, a, m, z, true)
					same(t, a, m)
					has(t, a, k, z)
				}
			}
		}
	}
}

// P1402: Learn of a zone beside one that is there, whatever its Epoch: both are there.
func TestLearnOfWhatDoesNotMeet(t *testing.T) {
	for _, k := range []int{2, api.MaxK} {
		for _, text := range []string{"00", "000", "1", "11", "0011"} {
			for _, epoch := range []int{1, 4, 5, 6, lastEpoch} {
				there, z := zone("01", 5, 1, 2), zone(text, epoch, 1, 2)
				a, m := made(t, k, there)
				learned(t, a, m, z, true)
				same(t, a, m)
				has(t, a, k, there, z)
			}
		}
	}
}

// P1402: Learn of the zone that is there once more, the same, with another Holder, another Chain, and a greater Epoch.
func TestLearnOnceMore(t *testing.T) {
	for _, k := range []int{1, 4, api.MaxK} {
		for _, text := range []string{"", "0", deep(2*k, "10")} {
			there := zone(text, 65, 1, 2, 3)
			a, m := made(t, k, there)
			refused(t, a, m, there)
			refused(t, a, m, zone(text, 65, 4, 2, 3))
			refused(t, a, m, zone(text, 65, 1, 3, 2))
			refused(t, a, m, zone(text, 65, 1))
			refused(t, a, m, zone(text, 64, 1, 2, 3))
			has(t, a, k, there)
			next := zone(text, 66, 1, 2, 3)
			learned(t, a, m, next, true)
			has(t, a, k, next)
			refused(t, a, m, there)
			refused(t, a, m, next)
		}
	}
}

// P1402: Learn of the whole torus, and of a part, over several that are there: one with the same Epoch, or a greater one, is enough.
func TestLearnOverSeveral(t *testing.T) {
	quarters := []message.Zone{zone("00", 3, 0, 1), zone("01", 9, 1, 2), zone("10", 5, 2, 3), zone("11", 4, 3, 4)}
	for _, k := range []int{1, 5, api.MaxK} {
		a, m := made(t, k, quarters...)
		for _, epoch := range []int{1, 3, 4, 5, 8, 9} {
			refused(t, a, m, zone("", epoch, 6))
		}
		for _, epoch := range []int{1, 3, 4, 8, 9} {
			refused(t, a, m, zone("0", epoch, 6))
		}
		for _, epoch := range []int{1, 3, 4, 5} {
			refused(t, a, m, zone("1", epoch, 6))
		}
		upper := zone("1", 6, 6, 7)
		learned(t, a, m, upper, true)
		has(t, a, k, quarters[0], quarters[1], upper)
		whole := zone("", 10, 7, 6)
		learned(t, a, m, whole, true)
		has(t, a, k, whole)
	}
}

// P1402: Learn of a half of one that is there: the other half is in no zone any more.
func TestLearnOfAHalf(t *testing.T) {
	for _, k := range []int{1, 2, api.MaxK} {
		for _, half := range []string{"0", "1"} {
			a, m := made(t, k, zone("", 1, 0, 1))
			z := zone(half, 65, 1, 0)
			learned(t, a, m, z, true)
			same(t, a, m)
			has(t, a, k, z)
			if a.Whole() {
				t.Errorf("K %d: with the half %q alone it is whole", k, half)
			}
		}
	}
}

// P1402: Learn of one more than MaxZones, whatever its Epoch.
func TestLearnOfTooMany(t *testing.T) {
	for _, k := range []int{4, 7, api.MaxK} {
		l := even(mostZones + 1)
		gap := textOf(l[mostZones].Path)
		a, m := made(t, k, l[:mostZones]...)
		for _, text := range []string{gap, gap + "0", gap + "1"} {
			refused(t, a, m, zone(text, lastEpoch, 1))
			refused(t, a, m, zone(text, 1, 1))
		}
	}
}

// P1402: where there are MaxZones, one that meets some is learned: in the place of one, of one that is above it, of two, and of all.
func TestLearnWhereItIsFull(t *testing.T) {
	for _, k := range []int{4, 7, api.MaxK} {
		l := even(mostZones + 1)
		gap := textOf(l[mostZones].Path)
		first := textOf(l[0].Path)
		for _, text := range []string{first, first + "0", first + "1", gap[:len(gap)-1], first[:len(first)-1], "0", ""} {
			a, m := made(t, k, l[:mostZones]...)
			refused(t, a, m, zone(text, 1, 1))
			refused(t, a, m, zone(gap, lastEpoch, 1))
			learned(t, a, m, zone(text, lastEpoch, 1), true)
			same(t, a, m)
		}
	}
}

// P1402: where it is full, there is room for just one when one is forgotten.
func TestRoomAgain(t *testing.T) {
	for _, k := range []int{4, api.MaxK} {
		l := even(mostZones + 1)
		a, m := made(t, k, l[:mostZones]...)
		forgotten(t, a, m, l[5].Path)
		learned(t, a, m, l[mostZones], true)
		same(t, a, m)
		refused(t, a, m, l[5])
		if len(a.List()) != mostZones {
			t.Errorf("K %d: %d zones", k, len(a.List()))
		}
	}
}

// P1402: as many as MaxZones, and no more, in tori that have just so many cells, or some more.
func TestMostZones(t *testing.T) {
	for _, k := range []int{3, 4, api.MaxK} {
		a, m := made(t, k, even(mostZones)...)
		same(t, a, m)
		if len(a.List()) != mostZones || !a.Whole() {
			t.Errorf("K %d: %d zones", k, len(a.List()))
		}
	}
}

// P1402: Forget, of a path that is there, of one above several, of one below one that is there, of one that none meets.
func TestForget(t *testing.T) {
	l := []message.Zone{zone("00", 3, 0, 1), zone("0110", 9, 1, 2), zone("0111", 2, 1, 3), zone("11", 4, 3, 4)}
	for _, k := range []int{2, 3, api.MaxK} {
		for text, want := range map[string][]message.Zone{
			"00": {l[1], l[2], l[3]}, "0110": {l[0], l[2], l[3]}, "0111": {l[0], l[1], l[3]}, "11": {l[0], l[1], l[2]},
			"01": {l[0], l[3]}, "011": {l[0], l[3]}, "0": {l[3]}, "1": {l[0], l[1], l[2]}, "": nil,
			"000": {l[1], l[2], l[3]}, "0011": {l[1], l[2], l[3]}, "110": {l[0], l[1], l[2]}, "1111": {l[0], l[1], l[2]},
			"010": l, "0100": l, "10": l, "1010": l,
		} {
			a, m := made(t, k, l...)
			forgotten(t, a, m, pathOf(text))
			has(t, a, k, want...)
			forgotten(t, a, m, pathOf(text))
			has(t, a, k, want...)
		}
	}
}

// P1402: Forget of paths that may not be at all, and in an atlas of nothing: nothing is gone.
func TestForgetOfNone(t *testing.T) {
	for k := 1; k <= api.MaxK; k++ {
		for _, l := range [][]message.Zone{nil, {zone("", 3, 0, 1)}, {zone("00", 3, 0, 1), zone("1", 9, 1, 2)}, even(4)} {
			a, m := made(t, k, l...)
			for _, p := range noPaths() {
				a.Forget(p)
				has(t, a, k, l...)
			}
			for _, p := range wrongPaths(k) {
				forgotten(t, a, m, p)
			}
		}
	}
}

// P1402: a zone that was forgotten is learned again, with a lesser Epoch, too.
func TestLearnOfWhatWasForgotten(t *testing.T) {
	a, m := made(t, 2, zone("01", 65, 1, 2), zone("1", 66, 2))
	forgotten(t, a, m, pathOf("0"))
	learned(t, a, m, zone("01", 3, 1, 2), true)
	has(t, a, 2, zone("01", 3, 1, 2), zone("1", 66, 2))
	forgotten(t, a, m, pathOf("11"))
	learned(t, a, m, zone("1", 1, 4), true)
	has(t, a, 2, zone("01", 3, 1, 2), zone("1", 1, 4))
}

// P1403: List and Tiles have the order of paths, whatever the order in which zones are learned.
func TestOrder(t *testing.T) {
	want := []message.Zone{zone("000", 7, 1), zone("0010", 1, 5, 2), zone("01", 9, 0, 7), zone("10", 2, 3), zone("1100", 8, 1, 0), zone("111", 3, 5)}
	tiles := []tiling.Tile{{Path: pathOf("000"), Who: 1}, {Path: pathOf("0010"), Who: 5}, {Path: pathOf("01"), Who: 0}, {Path: pathOf("10"), Who: 3}, {Path: pathOf("1100"), Who: 1}, {Path: pathOf("111"), Who: 5}}
	for _, k := range []int{2, 6, api.MaxK} {
		for _, l := range orders(len(want)) {
			a, _ := atlas.New(k)
			for _, i := range l {
				a.Learn(want[i])
			}
			if got := a.List(); !alike(got, want) {
				t.Fatalf("K %d, learned in the order %v: %v", k, l, got)
			}
			if got := a.Tiles(); !slices.Equal(got, tiles) {
				t.Fatalf("K %d, learned in the order %v: %v", k, l, got)
			}
		}
	}
}

// orders: all of so many numbers.
func orders(n int) [][]int {
	if n == 0 {
		return [][]int{nil}
	}
	var all [][]int
	for _, l := range orders(n - 1) {
		for i := range n {
			all = append(all, slices.Insert(slices.Clone(l), i, n-1))
		}
	}
	return all
}

// found: what Find has to answer.
func found(t *testing.T, a *atlas.Atlas, c api.Point, want message.Zone, some bool) {
	t.Helper()
	if z, ok := a.Find(c); !alike([]message.Zone{z}, []message.Zone{want}) || ok != some {
		t.Errorf("Find(%v) = %v, %v, want %v, %v", c, z, ok, want, some)
	}
}

// P1403: Find, of a cell in a zone, in none, and of no cell.
func TestFind(t *testing.T) {
	for k := 2; k <= api.MaxK; k++ {
		n := side(k)
		first, second, cell := zone("01", 7, 7, 1), zone("1", 1, 0), zone(deep(2*k, "0"), 9, 3, 4, 5)
		a, _ := made(t, k, first, second, cell)
		found(t, a, api.Point{X: 0, Y: n / 2}, first, true)
		found(t, a, api.Point{X: n/2 - 1, Y: n - 1}, first, true)
		found(t, a, api.Point{X: n / 2, Y: n - 1}, second, true)
		found(t, a, api.Point{X: n - 1, Y: 0}, second, true)
		found(t, a, api.Point{}, cell, true)
		found(t, a, api.Point{X: 1, Y: 0}, message.Zone{}, false)
		found(t, a, api.Point{X: 0, Y: 1}, message.Zone{}, false)
		found(t, a, api.Point{X: n/2 - 1, Y: n/2 - 1}, message.Zone{}, false)
	}
}

// P1403: Find of no cell, in an atlas of nothing, of the whole torus, and of parts.
func TestFindOfNoCell(t *testing.T) {
	for k := 1; k <= api.MaxK; k++ {
		for _, l := range [][]message.Zone{nil, {zone("", 2, 6)}, even(4)} {
			a, _ := made(t, k, l...)
			for _, c := range noCells(k) {
				found(t, a, c, message.Zone{}, false)
			}
		}
	}
	whole, _ := made(t, 1, zone("", 2, 6))
	found(t, whole, api.Point{X: 1, Y: 1}, zone("", 2, 6), true)
	found(t, whole, api.Point{X: 2, Y: 1}, message.Zone{}, false)
}

// P1403: Of a node that holds none, one and several, that is an heir alone, and of no node.
func TestOf(t *testing.T) {
	l := []message.Zone{zone("1", 7, 5, 2), zone("011", 4, 3, 2, 5), zone("00", 9, 5, 3, 2)}
	for _, k := range []int{2, api.MaxK} {
		a, _ := made(t, k, l...)
		for who, want := range map[int][]message.Zone{0: nil, 2: nil, 3: {l[1]}, 5: {l[2], l[0]}, 7: nil} {
			if got := a.Of(who); !alike(got, want) {
				t.Errorf("K %d: Of(%d) = %v", k, who, got)
			}
		}
		for _, who := range noNodes() {
			if got := a.Of(who); len(got) != 0 {
				t.Errorf("K %d: Of(%d) = %v", k, who, got)
			}
		}
	}
	zero, _ := made(t, 1, zone("1", 7, 0, 2))
	if got := zero.Of(0); !alike(got, []message.Zone{zone("1", 7, 0, 2)}) {
		t.Errorf("Of(0) = %v", got)
	}
}

// around: what Round has to answer, by texts.
func around(t *testing.T, a *atlas.Atlas, p string, want ...string) {
	t.Helper()
	var got []string
	for _, z := range a.Round(pathOf(p)) {
		got = append(got, path.Print(z.Path))
	}
	if !slices.Equal(got, want) {
		t.Errorf("Round(%q) = %v, want %v", p, got, want)
	}
}

// P1403: Round of paths beside some, of one that is there, of one that meets some, and of the whole torus.
func TestRound(t *testing.T) {
	a, _ := made(t, 2, zone("1010", 1, 0), zone("00", 1, 1), zone("0100", 2, 2), zone("0111", 3, 3), zone("1111", 4, 4))
	around(t, a, "00", "0100", "0111", "1010")
	around(t, a, "0100", "00")
	around(t, a, "0111", "00")
	around(t, a, "1010", "00", "1111")
	around(t, a, "1111", "1010")
	around(t, a, "01", "00", "1111")
	around(t, a, "0", "1010", "1111")
	around(t, a, "1", "00", "0100", "0111")
	around(t, a, "1011", "00", "1010")
	around(t, a, "0001", "0100")
	around(t, a, "000", "0100", "1010")
	around(t, a, "001", "0111")
	around(t, a, "")
}

// P1403: Round of small tori: two halves, four cells.
func TestRoundOfTheLeast(t *testing.T) {
	a, _ := made(t, 1, zone("0", 1, 0), zone("1", 1, 1))
	around(t, a, "0", "1")
	around(t, a, "1", "0")
	around(t, a, "10", "0")
	a, _ = made(t, 1, even(4)...)
	around(t, a, "00", "01", "10")
	around(t, a, "11", "01", "10")
	around(t, a, "0", "10", "11")
}

// P1403: Round of paths that may not be of k: nothing.
func TestRoundOfNoPath(t *testing.T) {
	for k := 1; k <= api.MaxK; k++ {
		for _, l := range [][]message.Zone{nil, {zone("", 2, 6)}, even(2), even(4), {zone("1", 1, 1)}} {
			a, _ := made(t, k, l...)
			for _, p := range wrongPaths(k) {
				if got := a.Round(p); len(got) != 0 {
					t.Errorf("K %d, of %v: Round(%v) = %v", k, l, p, got)
				}
			}
		}
	}
}

// P1403: Members, where one node holds several; heirs are none.
func TestMembers(t *testing.T) {
	for _, k := range []int{2, api.MaxK} {
		a, m := made(t, k, zone("00", 1, 7, 1), zone("0110", 2, 2, 6), zone("0111", 3, 7, 4), zone("10", 4, 0, 5), zone("111", 5, 2))
		if got := a.Members(); !slices.Equal(got, []int{0, 2, 7}) {
			t.Errorf("K %d: Members() = %v", k, got)
		}
		forgotten(t, a, m, pathOf("0111"))
		if got := a.Members(); !slices.Equal(got, []int{0, 2, 7}) {
			t.Errorf("K %d: Members() = %v", k, got)
		}
		forgotten(t, a, m, pathOf("00"))
		if got := a.Members(); !slices.Equal(got, []int{0, 2}) {
			t.Errorf("K %d: Members() = %v", k, got)
		}
	}
	all, _ := made(t, 4, even(16)...)
	if got := all.Members(); !slices.Equal(got, []int{0, 1, 2, 3, 4, 5, 6, 7}) {
		t.Errorf("Members() = %v", got)
	}
}

// P1403: Whole, of nothing, of all but one cell, of all.
func TestWhole(t *testing.T) {
	for k := 1; k <= api.MaxK; k++ {
		for _, halves := range []string{"0", "1", "01", "110"} {
			l := stair(2*k+1, halves)
			a, m := made(t, k, l...)
			same(t, a, m)
			if !a.Whole() {
				t.Fatalf("K %d: of %v: it is not whole", k, l)
			}
			for _, z := range l {
				c := a.Clone()
				c.Forget(z.Path)
				if c.Whole() {
					t.Fatalf("K %d: without %v it is whole", k, z)
				}
			}
		}
		for _, l := range [][]message.Zone{{zone("", 1, 0)}, even(2), even(3), even(4)} {
			a, _ := made(t, k, l...)
			if !a.Whole() {
				t.Errorf("K %d: of %v: it is not whole", k, l)
			}
		}
	}
}

// P1403: Whole, of each list of the cells of the least torus.
func TestWholeOfCells(t *testing.T) {
	for which := range 16 {
		var l []message.Zone
		for i, z := range even(4) {
			if which>>i&1 == 1 {
				l = append(l, z)
			}
		}
		a, _ := made(t, 1, l...)
		if a.Whole() != (which == 15) {
			t.Errorf("of %v: Whole() = %v", l, a.Whole())
		}
	}
}

// alikes: do both tell that they are the same, or are not?
func alikes(t *testing.T, a, b *atlas.Atlas, want bool) {
	t.Helper()
	if a.Same(b) != want || b.Same(a) != want || a.Same(a.Clone()) != (a != nil) {
		t.Errorf("%v and %v: Same() = %v, %v", a.List(), b.List(), a.Same(b), b.Same(a))
	}
}

// P1403: Same, of atlases of unlike k, of nothing and of zones.
func TestSameOfKs(t *testing.T) {
	for k := 1; k <= api.MaxK; k++ {
		for j := 1; j <= api.MaxK; j++ {
			for _, l := range [][]message.Zone{nil, {zone("", 1, 0)}, even(4)} {
				a, _ := made(t, k, l...)
				b, _ := made(t, j, l...)
				alikes(t, a, b, k == j)
			}
		}
	}
}

// P1403: Same, of atlases that learned in another order, by another way, and with a chain of nothing that is none.
func TestSameInAnotherOrder(t *testing.T) {
	l := []message.Zone{zone("00", 3, 0, 1), zone("01", 9, 1, 2), zone("10", 5, 2, 3), zone("11", 4, 3, 4, 5)}
	a, _ := made(t, 2, l...)
	for _, order := range orders(len(l)) {
		b, _ := made(t, 2)
		for _, i := range order {
			b.Learn(l[i])
		}
		alikes(t, a, b, true)
	}
	b, _ := made(t, 2, zone("", 1, 5), zone("0", 2, 5), zone("1", 2, 5), l[3], l[2], l[1], l[0])
	alikes(t, a, b, true)
	a, _ = made(t, 2, message.Zone{Epoch: 1, Chain: []int{}})
	b, _ = made(t, 2, message.Zone{Epoch: 1})
	alikes(t, a, b, true)
}

// P1403: Same, of atlases that differ in one thing alone.
func TestSameOfUnlike(t *testing.T) {
	other := zone("10", 8, 4, 5)
	there := zone("01", 3, 1, 2, 3)
	for _, k := range []int{2, api.MaxK} {
		a, _ := made(t, k, other, there)
		for _, z := range []message.Zone{
			zone("00", 3, 1, 2, 3), zone("0", 3, 1, 2, 3), zone("011", 3, 1, 2, 3), zone("11", 3, 1, 2, 3),
			zone("01", 2, 1, 2, 3), zone("01", 4, 1, 2, 3), zone("01", 3, 0, 2, 3), zone("01", 3, 4, 2, 3),
			zone("01", 3, 1, 3, 2), zone("01", 3, 1, 2), zone("01", 3, 1, 2, 3, 4), zone("01", 3, 1), zone("01", 3, 1, 2, 4),
		} {
			b, _ := made(t, k, other, z)
			alikes(t, a, b, false)
		}
		less, _ := made(t, k, other)
		more, _ := made(t, k, other, there, zone("11", 1, 1))
		none, _ := made(t, k)
		alikes(t, a, less, false)
		alikes(t, a, more, false)
		alikes(t, a, none, false)
	}
}

// P1401: of a nil Atlas, and of one that New did not make.
func TestOfNoAtlas(t *testing.T) {
	some, m := made(t, 1, zone("0", 3, 1, 2))
	for _, a := range []*atlas.Atlas{nil, {}, new(atlas.Atlas)} {
		for range 2 {
			for _, z := range append(wrongZones(), zone("", 1, 0), zone("0", 3, 1, 2)) {
				if a.Learn(z) {
					t.Fatalf("Learn(%v) is true", z)
				}
			}
			for _, p := range append(wrongPaths(1), api.Path{}, pathOf("0"), pathOf("1")) {
				a.Forget(p)
				if l := a.Round(p); len(l) != 0 {
					t.Fatalf("Round(%v) = %v", p, l)
				}
			}
			for _, c := range append(noCells(1), api.Point{}, api.Point{X: 1}) {
				found(t, a, c, message.Zone{}, false)
			}
			for _, who := range append(noNodes(), 0, 1, 7) {
				if l := a.Of(who); len(l) != 0 {
					t.Fatalf("Of(%d) = %v", who, l)
				}
			}
			if len(a.List()) != 0 || len(a.Tiles()) != 0 || len(a.Members()) != 0 || a.Whole() || a.Clone() != nil {
				t.Fatalf("of none: %v, %v, %v, %v, %v", a.List(), a.Tiles(), a.Members(), a.Whole(), a.Clone())
			}
			if a.Same(some) || some.Same(a) || a.Same(a) || a.Same(nil) || a.Same(&atlas.Atlas{}) {
				t.Fatalf("of none: Same is true")
			}
		}
	}
	same(t, some, m)
}

// The chapter's example.
func TestExample(t *testing.T) {
	a, e := atlas.New(1)
	if e != api.OK || !a.Learn(message.Zone{Epoch: 1}) || !a.Learn(message.Zone{Path: api.Path{Depth: 1}, Epoch: 65}) {
		t.Fatalf("New(1) = %d, then %v", e, a.List())
	}
	if l := a.List(); !alike(l, []message.Zone{{Path: api.Path{Depth: 1}, Epoch: 65}}) {
		t.Errorf("List() = %v", l)
	}
}
