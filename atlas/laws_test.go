package atlas_test

import (
	"math"
	"math/rand"
	"slices"
	"testing"

	"glebe/api"
	"glebe/atlas"
	"glebe/message"
	"glebe/path"
	"glebe/tiling"
)

// outcome: how a drawn act ended.
type outcome int

const (
	forgotNone outcome = iota
	forgotSome
	learnedAlone
	learnedInPlace
	learnedWhereFull
	refusedForm
	refusedOld
	refusedFull
	outcomes
)

// drawnText: a path where something is, or near it, or any one.
func drawnText(r *rand.Rand, m *plain) string {
	if r.Intn(4) == 0 {
		return deep(r.Intn(2*m.k+2), "0110")
	}
	l := m.someTexts()
	return l[r.Intn(len(l))]
}

// drawnZone: most may be, and of those that meet some most are a bit newer, or a bit older.
func drawnZone(r *rand.Rand, m *plain, text string) message.Zone {
	z := zone(text, 1+r.Intn(5), r.Intn(nodes))
	met, _ := m.parted(z.Path)
	for _, other := range met {
		z.Epoch = max(z.Epoch, other.Epoch+r.Intn(4)-1)
	}
	for _, who := range r.Perm(nodes)[:r.Intn(5)] {
		if who != z.Holder || r.Intn(9) == 0 {
			z.Chain = append(z.Chain, who)
		}
	}
	if r.Intn(20) == 0 {
		z.Epoch = []int{0, -1, lastEpoch, lastEpoch + 1}[r.Intn(4)]
	}
	if r.Intn(20) == 0 {
		z.Holder = noNodes()[r.Intn(len(noNodes()))]
	}
	return z
}

// outcomeOf: how Learn of the zone will end, by the model.
func outcomeOf(m *plain, z message.Zone) outcome {
	met, left := m.parted(z.Path)
	switch n := m.copyOf(); {
	case !zoneIs(z) || z.Path.Depth > 2*m.k:
		return refusedForm
	case !n.learn(z) && slices.ContainsFunc(met, func(y message.Zone) bool { return y.Epoch >= z.Epoch }):
		return refusedOld
	case !n.learn(z) && len(left) >= mostZones:
		return refusedFull
	case len(m.l) == mostZones:
		return learnedWhereFull
	case len(met) > 0:
		return learnedInPlace
	}
	return learnedAlone
}

// drive: so many drawn acts; each is answered as in the model, which tells the same behind it.
func drive(t *testing.T, r *rand.Rand, a *atlas.Atlas, m *plain, acts int, seen *[outcomes]int) {
	t.Helper()
	for range acts {
		text := drawnText(r, m)
		if r.Intn(8) == 0 {
			met, _ := m.parted(pathOf(text))
			forgotten(t, a, m, pathOf(text))
			seen[forgotNone+outcome(min(len(met), 1))]++
			continue
		}
		z := drawnZone(r, m, text)
		seen[outcomeOf(m, z)]++
		if got, want := a.Learn(z), m.learn(z); got != want {
			t.Fatalf("K %d, then %v: Learn(%v) = %v", m.k, m.l, z, got)
		}
		same(t, a, m)
		unmet(t, a)
	}
}

// unmet: no two zones meet, all may be, and there are no more than MaxZones.
func unmet(t *testing.T, a *atlas.Atlas) {
	t.Helper()
	l := a.List()
	if len(l) > mostZones {
		t.Fatalf("%d zones", len(l))
	}
	for i, z := range l {
		if !message.RightZone(z) {
			t.Fatalf("%v may not be", z)
		}
		for _, y := range l[:i] {
			if path.Meet(y.Path, z.Path) {
				t.Fatalf("%v meets %v", y, z)
			}
		}
	}
}

// P1402, P1403, P1405: drawn acts, held against a plain list of zones; no two zones meet.
func TestDrawnActs(t *testing.T) {
	var seen [outcomes]int
	for _, k := range []int{1, 2, 3, 4, 7, api.MaxK} {
		for seed := range 3 {
			r := rand.New(rand.NewSource(int64(100*k + seed)))
			a, m := made(t, k)
			if k >= 3 && seed == 2 { // as many as there may be
				a, m = made(t, k, even(mostZones)...)
			}
			drive(t, r, a, m, 60*min(k, 3), &seen)
		}
	}
	for k := 4; k <= api.MaxK; k += 4 { // where it is full, and not whole
		a, m := made(t, k, even(mostZones + 1)[:mostZones]...)
		for seed := range 5 {
			r := rand.New(rand.NewSource(int64(seed)))
			b, n := a.Clone(), m.copyOf()
			drive(t, r, b, n, 6, &seen)
			gap := even(mostZones + 1)[mostZones]
			seen[outcomeOf(n, gap)]++
			if got, want := b.Learn(gap), n.learn(gap); got != want {
				t.Fatalf("K %d, of %v: Learn(%v) = %v", k, n.l, gap, got)
			}
			same(t, b, n)
		}
	}
	for o, n := range seen {
		if n == 0 {
			t.Errorf("no act that ends as %d was drawn", o)
		}
	}
}

// halved: zones that come from the whole torus by halving, each half with a greater Epoch; all that there were, and the last ones.
func halved(r *rand.Rand, k, times int) (all, last []message.Zone) {
	whole := zone("", 1+r.Intn(3), r.Intn(nodes))
	all, last = []message.Zone{whole}, []message.Zone{whole}
	for range times {
		i := r.Intn(len(last))
		z := last[i]
		text := textOf(z.Path)
		if len(text) == 2*k {
			continue
		}
		lower := zone(text+"0", z.Epoch+1+r.Intn(3), r.Intn(nodes))
		upper := zone(text+"1", z.Epoch+1+r.Intn(3), (lower.Holder+1)%nodes, lower.Holder)
		last[i] = lower
		last = append(last, upper)
		all = append(all, lower, upper)
	}
	return all, last
}

// learnAll: an atlas that has learned them in that order.
func learnAll(t *testing.T, k int, l []message.Zone, order []int) *atlas.Atlas {
	t.Helper()
	a, _ := made(t, k)
	for _, i := range order {
		a.Learn(l[i])
		unmet(t, a)
	}
	return a
}

// P1404: the last ones stay, in whichever order all are learned: of few zones all orders.
func TestNewestInAllOrders(t *testing.T) {
	for _, k := range []int{1, 2, api.MaxK} {
		for seed := range 12 {
			r := rand.New(rand.NewSource(int64(seed)))
			all, last := halved(r, k, 1+seed%2) // of seven zones there would be too many orders
			want := &plain{k: k, l: last}
			for _, order := range orders(len(all)) {
				if a := learnAll(t, k, all, order); !alike(a.List(), want.all()) || !a.Whole() {
					t.Fatalf("K %d: of %v in the order %v there is %v", k, all, order, a.List())
				}
			}
		}
	}
}

// P1404: likewise of many zones, up to MaxZones last ones, in drawn orders, some of them more than once.
func TestNewestInDrawnOrders(t *testing.T) {
	for _, k := range []int{2, 3, 4, 9, api.MaxK} {
		for seed := range 12 {
			r := rand.New(rand.NewSource(int64(100*k + seed)))
			all, last := halved(r, k, []int{5, 20, mostZones - 1}[seed%3])
			want := &plain{k: k, l: last}
			first := learnAll(t, k, all, r.Perm(len(all)))
			same(t, first, want)
			order := append(r.Perm(len(all)), r.Perm(len(all))...)
			again := learnAll(t, k, all, order)
			if !again.Same(first) || !alike(again.List(), want.all()) || !again.Whole() {
				t.Fatalf("K %d: of %v in the order %v there is %v", k, all, order, again.List())
			}
		}
	}
}

// P1404: forwards and backwards, and each way down alone.
func TestNewestForwardsAndBackwards(t *testing.T) {
	for k := 1; k <= api.MaxK; k++ {
		all, last := halved(rand.New(rand.NewSource(int64(k))), k, 30)
		forwards := make([]int, len(all))
		for i := range forwards {
			forwards[i] = i
		}
		backwards := slices.Clone(forwards)
		slices.Reverse(backwards)
		has(t, learnAll(t, k, all, forwards), k, last...)
		has(t, learnAll(t, k, all, backwards), k, last...)
	}
}

// samples: atlases of unlike sizes.
func samples(k int) [][]message.Zone {
	return [][]message.Zone{nil, {zone("", 3, 1, 2, 4)}, {zone("00", 3, 1, 2), zone("01", 65, 2, 1, 5, 3)}, even(4), stair(2*k+1, "01")}
}

// P1401, P1403: a Clone stays, while the other one is changed, and the other way round.
func TestCloneIsApart(t *testing.T) {
	var seen [outcomes]int
	for _, k := range []int{1, 3, api.MaxK} {
		r := rand.New(rand.NewSource(int64(k)))
		for _, l := range samples(k) {
			a, m := made(t, k, l...)
			c, n := a.Clone(), m.copyOf()
			same(t, c, n)
			drive(t, r, a, m, 25, &seen)
			same(t, c, n)
			drive(t, r, c, n, 25, &seen)
			same(t, a, m)
			d, o := c.Clone(), n.copyOf()
			drive(t, r, d, o, 25, &seen)
			same(t, c, n)
		}
	}
}

// P1403: each single change of a Clone, or of the elder one, leaves the other one.
func TestCloneOfEachChange(t *testing.T) {
	l := []message.Zone{zone("00", 3, 1, 2), zone("01", 65, 2, 1, 5, 3), zone("10", 4, 0)}
	changes := []func(*atlas.Atlas){
		func(a *atlas.Atlas) { a.Learn(zone("11", 1, 1)) },
		func(a *atlas.Atlas) { a.Learn(zone("01", 66, 3, 4)) },
		func(a *atlas.Atlas) { a.Learn(zone("000", 9, 3)) },
		func(a *atlas.Atlas) { a.Learn(zone("", 99, 3)) },
		func(a *atlas.Atlas) { a.Forget(pathOf("0")) },
		func(a *atlas.Atlas) { a.Forget(pathOf("101")) },
	}
	for i, change := range changes {
		a, m := made(t, 2, l...)
		c := a.Clone()
		change(a)
		same(t, c, m)
		if a.Same(c) {
			t.Errorf("%d has changed nothing: %v", i, a.List())
		}
		a, m = made(t, 2, l...)
		c = a.Clone()
		change(c)
		same(t, a, m)
	}
}

// lists: all lists of zones that an atlas tells, one each.
func lists(a *atlas.Atlas) [][]message.Zone {
	l := [][]message.Zone{a.List(), a.List(), a.Clone().List()}
	for who := range nodes {
		l = append(l, a.Of(who))
	}
	for _, p := range []string{"", "0", "1", "00", "01", "10", "11"} {
		l = append(l, a.Round(pathOf(p)))
	}
	for _, z := range a.List() {
		one, ok := a.Find(cornerOf(z))
		if ok {
			l = append(l, []message.Zone{one})
		}
	}
	return l
}

// cornerOf: a cell of the zone, in a torus of K 2.
func cornerOf(z message.Zone) api.Point {
	s := spans(2, textOf(z.Path))
	return api.Point{X: s[0][0], Y: s[1][0]}
}

// spoil: all of a list, and what is behind it, is something else.
func spoil(l []message.Zone) {
	for i := range l[:cap(l)] {
		chain := l[:cap(l)][i].Chain
		for j := range chain[:cap(chain)] {
			chain[:cap(chain)][j] = 7 - j
		}
		l[:cap(l)][i] = message.Zone{Path: pathOf("1111"), Epoch: 77, Holder: 7}
	}
}

// P1401: what was told is its caller's: changed, and what is behind it, it changes neither the atlas nor what was told elsewhere.
func TestToldIsApart(t *testing.T) {
	for _, l := range [][]message.Zone{{zone("", 3, 1, 2, 4)}, {zone("00", 3, 1, 2), zone("01", 65, 2, 1, 5, 3)}, even(4), stair(5, "01"), even(16)} {
		a, m := made(t, 2, l...)
		want := lists(a)
		for i := range want {
			got := lists(a)
			spoil(got[i])
			for j := range got {
				if j != i && !alike(got[j], want[j]) {
					t.Fatalf("of %v: spoiling list %d has made list %d %v", l, i, j, got[j])
				}
			}
			same(t, a, m)
		}
		for i := range want {
			spoil(want[i])
		}
		same(t, a, m)
	}
}

// P1401: no two chains of one list share anything, not even the room behind them.
func TestChainsAreApart(t *testing.T) {
	a, _ := made(t, 2, even(16)...)
	for n, l := range lists(a) {
		was := make([]message.Zone, len(l))
		for i, z := range l {
			was[i] = copied(z)
		}
		for i, z := range l {
			for j := range z.Chain[:cap(z.Chain)] {
				z.Chain[:cap(z.Chain)][j] = 99
			}
			if !alike(l[i+1:], was[i+1:]) {
				t.Fatalf("list %d: the chain of zone %d is one with another one", n, i)
			}
		}
	}
}

// P1401: lists of tiles and nodes are apart, too.
func TestTilesAndMembersAreApart(t *testing.T) {
	for _, l := range samples(2) {
		a, m := made(t, 2, l...)
		tiles, members := a.Tiles(), a.Members()
		other, others := a.Tiles(), a.Members()
		for i := range tiles[:cap(tiles)] {
			tiles[:cap(tiles)][i] = tiling.Tile{Path: pathOf("1111"), Who: 9}
		}
		for i := range members[:cap(members)] {
			members[:cap(members)][i] = 9
		}
		same(t, a, m)
		if !slices.Equal(other, m.tiles()) || !slices.Equal(others, m.members()) {
			t.Errorf("of %v: what was told elsewhere is %v, %v", l, other, others)
		}
	}
}

// P1401: what was told stays as it was, when the atlas changes.
func TestToldStays(t *testing.T) {
	for _, l := range [][]message.Zone{{zone("", 3, 1, 2, 4)}, {zone("00", 3, 1, 2), zone("01", 65, 2, 1, 5, 3)}, even(4)} {
		a, _ := made(t, 2, l...)
		told, want := lists(a), lists(a.Clone())
		tiles, members := a.Tiles(), a.Members()
		others, nodes := a.Clone().Tiles(), a.Clone().Members()
		for _, text := range []string{"", "0", "1", "01", "0101", "11"} {
			a.Learn(zone(text, 1000+len(text), 6, 5, 4, 3))
			a.Forget(pathOf(text))
			a.Learn(zone(text, 3, 7, 6))
		}
		for i := range told {
			if !alike(told[i], want[i]) {
				t.Errorf("of %v: list %d is now %v", l, i, told[i])
			}
		}
		if !slices.Equal(tiles, others) || !slices.Equal(members, nodes) {
			t.Errorf("of %v: now %v, %v", l, tiles, members)
		}
	}
}

// P1401: what is handed in is neither changed, nor the room behind its Chain, nor kept.
func TestHandedInIsNotKept(t *testing.T) {
	for _, n := range []int{0, 1, 3, 7} {
		room := []int{0, 1, 2, 3, 4, 5, 6, 55, 66, 77}
		was := slices.Clone(room)
		z := message.Zone{Path: pathOf("01"), Epoch: 5, Holder: 7, Chain: room[:n]}
		a, m := made(t, 2, z)
		c, _ := made(t, 2, z)
		if !slices.Equal(room, was) {
			t.Fatalf("of what was handed in is left %v", room)
		}
		for i := range room {
			room[i] = 7
		}
		same(t, a, m)
		same(t, c, m)
		refused(t, a, m, message.Zone{Path: pathOf("01"), Epoch: 5, Holder: 7, Chain: was[:n]})
		spoil(a.List())
		spoil(c.List())
		a.Learn(message.Zone{Path: pathOf("0"), Epoch: 6, Holder: 7, Chain: was[:n]})
		a.Forget(api.Path{})
		same(t, c, m)
		if !slices.Equal(was, []int{0, 1, 2, 3, 4, 5, 6, 55, 66, 77}) || slices.ContainsFunc(room, func(n int) bool { return n != 7 }) {
			t.Fatalf("of what was handed in is left %v, %v", was, room)
		}
	}
}

// P1401: nor is it where it is refused, nor by Same.
func TestRefusedIsNotKept(t *testing.T) {
	a, m := made(t, 2, zone("01", 5, 7, 1, 2))
	b, n := made(t, 2, zone("01", 5, 7, 1, 2))
	chain := []int{3, 4, 4, 9}
	for _, z := range []message.Zone{{Path: pathOf("01"), Epoch: 5, Holder: 7, Chain: chain[:2]}, {Path: pathOf("01"), Epoch: 6, Holder: 7, Chain: chain[:3]}, {Path: pathOf("01"), Epoch: 6, Holder: 3, Chain: chain[:1]}} {
		refused(t, a, m, z)
	}
	if !slices.Equal(chain, []int{3, 4, 4, 9}) || !a.Same(b) {
		t.Errorf("of what was handed in is left %v", chain)
	}
	same(t, a, m)
	same(t, b, n)
}

// P7: there is an answer, whatever is asked, and looks have changed nothing.
func TestAnything(t *testing.T) {
	numbers := []int{math.MinInt, -1, 0, 1, 2, 3, 32, 33, 63, 64, 1 << 32, math.MaxInt}
	for _, k := range []int{1, 2, api.MaxK} {
		a, m := made(t, k, stair(2*k+1, "01")...)
		for _, n := range numbers {
			for _, o := range numbers {
				p, c := api.Path{Depth: n, Bits: o}, api.Point{X: n, Y: o}
				if l := a.Round(p); !alike(l, m.round(p)) {
					t.Fatalf("K %d: Round(%v) = %v", k, p, l)
				}
				want, some := m.find(c)
				found(t, a, c, want, some)
				if l := a.Of(n); !alike(l, m.of(n)) {
					t.Fatalf("K %d: Of(%d) = %v", k, n, l)
				}
				if !pathIs(p, deepest) {
					a.Forget(p)
				}
				z := message.Zone{Path: p, Epoch: n, Holder: o, Chain: []int{o, n}}
				if got, want := a.Learn(z), m.learn(z); got != want {
					t.Fatalf("K %d: Learn(%v) = %v", k, z, got)
				}
			}
		}
		same(t, a, m)
	}
}

// P8: the same acts have the same answers, and looks between them change nothing.
func TestAgain(t *testing.T) {
	for _, k := range []int{2, 4, api.MaxK} {
		r := rand.New(rand.NewSource(int64(k)))
		a, m := made(t, k)
		b, _ := made(t, k)
		for range 150 {
			z := drawnZone(r, m, drawnText(r, m))
			if r.Intn(8) == 0 {
				a.Forget(z.Path)
				b.Forget(z.Path)
				m.forget(z.Path)
				continue
			}
			first, second, want := a.Learn(z), b.Learn(z), m.learn(z)
			if first != second || first != want || !a.Same(b) || !alike(a.List(), a.List()) || !slices.Equal(a.Tiles(), b.Tiles()) {
				t.Fatalf("K %d: Learn(%v) = %v, then %v; %v, then %v", k, z, first, second, a.List(), b.List())
			}
		}
		same(t, b, m)
	}
}
