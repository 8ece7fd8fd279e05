package shelf_test

import (
	"math"
	"slices"
	"strings"
	"testing"

	"glebe/api"
	"glebe/path"
	"glebe/point"
	"glebe/session"
	"glebe/shelf"
	"glebe/window"
)

// The chapter's example: Put of a key, then Get.
func TestExample(t *testing.T) {
	x, _ := made(t, 1, "")
	if a, e := x.Apply(put(cell(1, 1), "k", "v")); a != (point.Ans{}) || e != api.OK {
		t.Errorf("Put: %v, %d", a, e)
	}
	getIs(t, x, cell(1, 1), "k", told("v", 1))
}

// nobodys: shelves that nobody made.
func nobodys() []*shelf.Shelf {
	var none *shelf.Shelf
	return []*shelf.Shelf{none, {}, new(shelf.Shelf)}
}

// isNone: each call of one shelf answers as of none.
func isNone(t *testing.T, x *shelf.Shelf) {
	t.Helper()
	numbers := []int{math.MinInt, -1, 0, 1, 7, 1 << 40, math.MaxInt}
	for _, a := range numbers {
		for _, b := range numbers {
			getIs(t, x, cell(a, b), "k", point.Ans{E: api.ErrArg})
			lookIs(t, x, a, b, 0, point.Ans{})
			if l := x.In(window.Rect{X: a, Y: b, W: b, H: a}); len(l) != 0 {
				t.Errorf("In = %v", l)
			}
			partRefuses(t, x, api.Path{Depth: a, Bits: b})
			for _, o := range []point.Op{put(cell(a, b), "k", "v"), by(a, b, get(cell(0, 0), "k")), {}} {
				if ans, e := x.Apply(o); ans != (point.Ans{}) || e != api.ErrArg {
					t.Errorf("Apply(%v) = %v, %d", o, ans, e)
				}
			}
		}
	}
	if p, n, b, c := x.Zone(), x.Len(), x.Put(), x.Clone(); p != (api.Path{}) || n != 0 || len(b) != 0 || c != nil {
		t.Errorf("Zone %v, Len %d, Put %v, Clone %v", p, n, b, c)
	}
}

// P1001: of a nil shelf, and one that nobody made, alone and with another one.
func TestOfNone(t *testing.T) {
	for _, x := range nobodys() {
		isNone(t, x)
		for _, zone := range []string{"", "0", "1"} {
			m := full(2, zone, 5)
			some := shelved(t, m)
			joinRefuses(t, x, some)
			joinRefuses(t, some, x)
			if x.Same(some) || some.Same(x) {
				t.Errorf("Same as a shelf of the zone %q", zone)
			}
			tells(t, some, m)
		}
		for _, y := range nobodys() {
			joinRefuses(t, x, y)
			if x.Same(y) || x.Same(x) {
				t.Errorf("two that nobody made are the same")
			}
		}
		isNone(t, x)
	}
}

// P1002: New, of each k and zones of all depths; of the same twice, and each is another one.
func TestNew(t *testing.T) {
	for k := 1; k <= api.MaxK; k++ {
		for _, zone := range someZones(k) {
			x, m := made(t, k, zone)
			y, n := made(t, k, zone)
			tells(t, x, m)
			at := cell(area(k, zone).X, area(k, zone).Y)
			applied(t, x, m, put(at, "k", "v"), point.Ans{}, api.OK)
			tells(t, y, n)
		}
	}
}

func newRefuses(t *testing.T, k int, zone api.Path) {
	t.Helper()
	if x, e := shelf.New(k, zone); x != nil || e != api.ErrArg {
		t.Errorf("New(%d, %v) = %v, %d", k, zone, x, e)
	}
}

// P1002: New, of a k that may not be, of a zone that may not be, and of both.
func TestNewOfWrongKOrZone(t *testing.T) {
	for _, k := range wrongKs() {
		for _, zone := range []api.Path{{}, {Depth: 1, Bits: 1}, {Depth: 2}, {Depth: 32}} {
			newRefuses(t, k, zone)
		}
		for _, zone := range wrongPaths(api.MaxK) {
			newRefuses(t, k, zone)
		}
	}
	for k := 1; k <= api.MaxK; k++ {
		for _, zone := range wrongPaths(k) {
			newRefuses(t, k, zone)
		}
	}
}

// P1002: Get of a cell in the zone, of a record that is there and one that is not, and of a cell that is not in the zone.
func TestGet(t *testing.T) {
	for _, k := range []int{1, 2, 7, api.MaxK} {
		for _, zone := range someZones(k) {
			m := full(k, zone, 6)
			x := shelved(t, m)
			for _, r := range m.recs {
				getIs(t, x, r.At, r.Key, told(r.Value, r.Ver))
				for _, key := range []string{"k", "", "k0\x00", strings.Repeat("k", 17), strings.Repeat("k", 1<<17)} {
					getIs(t, x, r.At, key, point.Ans{})
				}
			}
			for _, at := range m.outside() {
				for _, key := range []string{"k0", "", "k"} {
					getIs(t, x, at, key, point.Ans{E: api.ErrArg})
				}
			}
			tells(t, x, m)
		}
	}
}

// P1002: Look of a Seq that is fresh, again and past, with the answer beside Again alone; of no client and no Seq nothing.
func TestLook(t *testing.T) {
	x, m := made(t, 2, "1")
	at := cell(2, 3)
	lookIs(t, x, 3, 1, session.Fresh, point.Ans{})
	applied(t, x, m, by(3, 5, put(at, "k", "v")), point.Ans{}, api.OK)
	applied(t, x, m, by(3, 8, put(at, "k", "w")), told("v", 2), api.OK)
	lookIs(t, x, 3, 8, session.Again, told("v", 2))
	for _, seq := range []int{9, 10, lastSeq} {
		lookIs(t, x, 3, seq, session.Fresh, point.Ans{})
	}
	for _, seq := range []int{1, 4, 5, 7} {
		lookIs(t, x, 3, seq, session.Past, point.Ans{})
	}
	lookIs(t, x, 2, 8, session.Fresh, point.Ans{})
	for _, seq := range []int{0, -1, -8, lastSeq + 1, math.MinInt, math.MaxInt} {
		lookIs(t, x, 3, seq, 0, point.Ans{})
	}
	for _, client := range []int{-1, 8, 11, math.MinInt, math.MaxInt} {
		lookIs(t, x, client, 8, 0, point.Ans{})
	}
	tells(t, x, m)
}

// P1002: Apply of a call that may not be, and of one whose cell is not in the zone: ErrArg, also where its Seq is past, and nothing is changed.
func TestApplyOfWrongCalls(t *testing.T) {
	for _, k := range []int{1, 2, api.MaxK} {
		for _, zone := range someZones(k) {
			m := full(k, zone, 3)
			x := shelved(t, m)
			for _, o := range wrongOps(m.recs[0].At) {
				applied(t, x, m, o, point.Ans{}, api.ErrArg)
			}
			for _, at := range m.outside() {
				for _, o := range []point.Op{put(at, "k", "v"), get(at, "k0"), del(at, "k0")} {
					applied(t, x, m, o, point.Ans{}, api.ErrArg)
					applied(t, x, m, by(7, 1, o), point.Ans{}, api.ErrArg)
				}
			}
			applied(t, x, m, point.Op{}, point.Ans{}, api.ErrArg)
		}
	}
}

// P1002: Apply of a Seq that is again, and past, whatever the call is: ErrStale, and nothing is changed.
func TestApplyOfStaleCalls(t *testing.T) {
	x, m := made(t, 2, "0")
	at := cell(1, 2)
	applied(t, x, m, by(5, 7, put(at, "k", "v")), point.Ans{}, api.OK)
	for _, seq := range []int{7, 6, 1} {
		for _, o := range []point.Op{put(at, "k", "v"), put(at, "k", "w"), put(at, "new", "w"), del(at, "k"), get(at, "k"), get(cell(0, 0), "k")} {
			applied(t, x, m, by(5, seq, o), point.Ans{}, api.ErrStale)
		}
	}
	applied(t, x, m, by(4, 7, get(at, "k")), told("v", 1), api.OK)
	applied(t, x, m, by(5, 8, get(at, "k")), told("v", 1), api.OK)
	applied(t, x, m, by(5, lastSeq, del(at, "k")), told("v", 1), api.OK)
	applied(t, x, m, by(5, lastSeq, del(at, "k")), point.Ans{}, api.ErrStale)
}

// P1002: Put of a new key, and of one that is there; Get and Del of one that is there, and of one that is not.
func TestApply(t *testing.T) {
	for _, k := range []int{1, 3, api.MaxK} {
		for _, zone := range someZones(k) {
			x, m := made(t, k, zone)
			z := area(k, zone)
			at, to := cell(z.X, z.Y), cell(z.X+z.W-1, z.Y+z.H-1)
			seq := 0
			does := func(o point.Op, want point.Ans) {
				t.Helper()
				seq++
				applied(t, x, m, by(seq%clients, seq, o), want, api.OK)
			}
			does(get(at, "k"), point.Ans{})
			does(del(at, "k"), point.Ans{})
			does(put(at, "k", "v"), point.Ans{})
			does(get(at, "k"), told("v", 1))
			does(put(at, "k", ""), told("v", 2))
			does(get(at, "k"), told("", 2))
			does(put(at, "k", strings.Repeat("w", 32)), told("", 3))
			does(put(to, "other", "o"), point.Ans{})
			does(put(at, "third", "p"), point.Ans{})
			does(del(at, "kk"), point.Ans{})
			does(del(at, "k"), told(strings.Repeat("w", 32), 3))
			does(get(at, "k"), point.Ans{})
			does(del(at, "k"), point.Ans{})
			does(put(at, "k", "again"), point.Ans{})
			does(put(at, "k", "again"), told("again", 2))
			does(put(at, strings.Repeat("k", 16), ""), point.Ans{})
			does(del(to, "other"), told("o", 1))
		}
	}
}

// P1002: the answer of each kind of call is noted.
func TestApplyNotes(t *testing.T) {
	x, m := made(t, 1, "")
	for i, o := range []point.Op{get(cell(0, 0), "k"), put(cell(0, 0), "k", "v"), get(cell(0, 0), "k"), put(cell(0, 0), "k", "w"), del(cell(0, 0), "k"), del(cell(0, 0), "k")} {
		a, e := applies(t, x, m, by(6, i+1, o))
		if e != api.OK {
			t.Fatalf("%v: %d", o, e)
		}
		lookIs(t, x, 6, i+1, session.Again, a)
		lookIs(t, x, 6, i+2, session.Fresh, point.Ans{})
	}
}

// P1002: Put of a new key with one record less than MaxRecords, with as many, and with more: from MaxRecords on ErrFull, which is noted; one that is there is put all the same.
func TestPutWhereThereAreMany(t *testing.T) {
	for _, k := range []int{1, 4} {
		for _, zone := range []string{"", "1", deep(2*k, "10")} {
			for n := 62; n <= 67; n++ {
				m := full(k, zone, n)
				x := shelved(t, m)
				at, want := m.recs[5].At, point.Ans{}
				if n >= mostRecs {
					want.E = api.ErrFull
				}
				applied(t, x, m, by(3, 1, put(at, "new", "v")), want, api.OK)
				lookIs(t, x, 3, 1, session.Again, want)
				if n >= mostRecs {
					applied(t, x, m, by(3, 2, put(at, "new", "v")), want, api.OK)
					getIs(t, x, at, "new", point.Ans{})
				}
				applied(t, x, m, by(3, 3, put(at, "k5", "w")), told("5", 7), api.OK)
				applied(t, x, m, by(3, 4, get(at, "k5")), told("w", 7), api.OK)
				applied(t, x, m, by(3, 5, del(at, "none")), point.Ans{}, api.OK)
			}
		}
	}
}

// P1002: where one of MaxRecords is deleted there is room for one; where one of more is there is none.
func TestRoomAgain(t *testing.T) {
	for n, want := range map[int]api.Errno{64: api.OK, 65: api.ErrFull, 512: api.ErrFull} {
		m := full(3, "0", n)
		x := shelved(t, m)
		applied(t, x, m, by(1, 1, put(m.recs[0].At, "new", "v")), point.Ans{E: api.ErrFull}, api.OK)
		applied(t, x, m, by(1, 2, del(m.recs[0].At, "k0")), told("0", 1), api.OK)
		applied(t, x, m, by(1, 3, put(m.recs[0].At, "new", "v")), point.Ans{E: want}, api.OK)
		if n == mostRecs {
			applied(t, x, m, by(1, 4, put(m.recs[0].At, "newer", "v")), point.Ans{E: api.ErrFull}, api.OK)
		}
	}
}

// P1002: MaxRecords are put one by one, from nothing on.
func TestPutOneByOne(t *testing.T) {
	x, m := made(t, 3, "")
	for i := range mostRecs + 3 {
		want := point.Ans{}
		if i >= mostRecs {
			want.E = api.ErrFull
		}
		applied(t, x, m, by(i%clients, i+1, put(cell(i%8, i/8%8), "k"+string(rune('0'+i)), "v")), want, api.OK)
	}
	if n := x.Len(); n != mostRecs {
		t.Errorf("Len() = %d", n)
	}
}

// P1002: Put of a record whose Ver is MaxSeq is ErrFull, and the record stays; with one less its Ver comes to MaxSeq.
func TestPutOfTheLastVer(t *testing.T) {
	for _, n := range []int{2, 64, 70} {
		m := full(2, "1", n)
		m.recs[0].Ver, m.recs[1].Ver = lastSeq, lastSeq-1
		x := shelved(t, m)
		first, second := m.recs[0].At, m.recs[1].At
		applied(t, x, m, by(1, 1, put(first, "k0", "w")), point.Ans{E: api.ErrFull}, api.OK)
		applied(t, x, m, by(1, 2, get(first, "k0")), told("0", lastSeq), api.OK)
		applied(t, x, m, by(1, 3, put(second, "k1", "w")), told("1", lastSeq), api.OK)
		applied(t, x, m, by(1, 4, put(second, "k1", "x")), point.Ans{E: api.ErrFull}, api.OK)
		lookIs(t, x, 1, 4, session.Again, point.Ans{E: api.ErrFull})
		applied(t, x, m, by(1, 5, get(second, "k1")), told("w", lastSeq), api.OK)
		applied(t, x, m, by(1, 6, del(first, "k0")), told("0", lastSeq), api.OK)
		if n < 64 {
			applied(t, x, m, by(1, 7, put(first, "k0", "anew")), point.Ans{}, api.OK)
			applied(t, x, m, by(1, 8, get(first, "k0")), told("anew", 1), api.OK)
		}
	}
}

// P1003: In, row by row, of a rectangle that does not go round.
func TestIn(t *testing.T) {
	a, b, c := point.Rec{At: cell(3, 0), Key: "z", Ver: 1}, point.Rec{At: cell(2, 1), Key: "b", Value: "v", Ver: 2}, point.Rec{At: cell(2, 1), Key: "c", Ver: 3}
	x := shelved(t, &plain{k: 2, zone: "1", recs: []point.Rec{c, a, b}})
	for r, want := range map[window.Rect][]point.Rec{
		{W: 4, H: 4}:                     {a, b, c},
		{W: 1 << 30, H: 1 << 30}:         {a, b, c},
		{X: 2, Y: 1, W: 1, H: 1}:         {b, c},
		{X: 3, W: 1, H: 4}:               {a},
		{X: 3, Y: 3, W: 4, H: 4}:         nil,
		{}:                               nil,
		{X: -1, Y: -1, W: 5, H: 5}:       nil,
		{W: 1<<30 + 1, H: 4}:             nil,
		{W: 4, H: math.MaxInt}:           nil,
		{X: math.MinInt, W: math.MaxInt}: nil,
	} {
		if l := x.In(r); !slices.Equal(l, want) {
			t.Errorf("In(%v) = %v, want %v", r, l, want)
		}
	}
}

// partIs: the part of the zone is as the lists', and the shelf itself stays.
func partIs(t *testing.T, x *shelf.Shelf, m *plain, zone string) *shelf.Shelf {
	t.Helper()
	y, e := x.Part(pathOf(zone))
	if e != api.OK {
		t.Fatalf("K %d, zone %q: Part(%q): %d", m.k, m.zone, zone, e)
	}
	tells(t, y, m.part(zone))
	tells(t, x, m)
	return y
}

func partRefuses(t *testing.T, x *shelf.Shelf, p api.Path) {
	t.Helper()
	if y, e := x.Part(p); y != nil || e != api.ErrArg {
		t.Errorf("zone %v: Part(%v) = %v, %d", x.Zone(), p, y, e)
	}
}

// P1003: Part of the zone itself, of its children, and of zones far below: with their records, and all answers.
func TestPart(t *testing.T) {
	for _, k := range []int{1, 2, 5, api.MaxK} {
		for _, zone := range someZones(k) {
			for _, n := range []int{0, 1, 30, 100} {
				m := full(k, zone, n)
				x := shelved(t, m)
				for _, below := range []string{"", "0", "1", "010", deep(2*k, "1"), deep(2*k, "0"), deep(2*k-1, "01")} {
					partIs(t, x, m, (zone + below)[:min(2*k, len(zone)+len(below))])
				}
			}
		}
	}
}

// P1003: Part of a path that the zone is not above, and of one that may not be.
func TestPartRefuses(t *testing.T) {
	for _, k := range []int{2, 3, 15, api.MaxK} {
		for _, zone := range []string{"", "0", "01", "110"} {
			m := full(k, zone, 5)
			x := shelved(t, m)
			for _, p := range wrongPaths(k) {
				partRefuses(t, x, p)
			}
			partRefuses(t, x, pathOf(zone+deep(2*k+1-len(zone), "0")))
			for i := range len(zone) {
				partRefuses(t, x, pathOf(zone[:i]))
				aside, _ := path.Sibling(pathOf(zone[:i+1]))
				partRefuses(t, x, aside)
				child, _ := path.Child(aside, 1)
				partRefuses(t, x, child)
			}
			tells(t, x, m)
		}
	}
}

// joinIs: a shelf as the lists, and both stay.
func joinIs(t *testing.T, x *shelf.Shelf, m *plain, y *shelf.Shelf, n *plain) *shelf.Shelf {
	t.Helper()
	z, e := x.Join(y)
	if e != api.OK {
		t.Fatalf("K %d: Join of %q and %q: %d", m.k, m.zone, n.zone, e)
	}
	tells(t, z, m.join(n))
	tells(t, x, m)
	tells(t, y, n)
	return z
}

func joinRefuses(t *testing.T, x, y *shelf.Shelf) {
	t.Helper()
	if z, e := x.Join(y); z != nil || e != api.ErrArg {
		t.Errorf("Join of %v and %v = %v, %d", x.Zone(), y.Zone(), z, e)
	}
}

// P1003: Join of both halves, either way round, with few records, and with more than MaxRecords in all.
func TestJoin(t *testing.T) {
	for _, k := range []int{1, 2, 5, api.MaxK} {
		for _, zone := range someZones(k) {
			if len(zone) == 2*k {
				continue
			}
			for _, size := range [][2]int{{0, 0}, {0, 3}, {7, 0}, {5, 6}, {64, 64}, {200, 3}} {
				m, n := full(k, zone+"0", size[0]), full(k, zone+"1", size[1])
				x, y := shelved(t, m), shelved(t, n)
				joinIs(t, x, m, y, n)
				joinIs(t, y, n, x, m)
			}
		}
	}
}

// P1003: Join of zones that are no siblings, of a shelf with itself, and of shelves of unlike k.
func TestJoinRefuses(t *testing.T) {
	zones := []string{"", "0", "1", "00", "01", "10", "11", "000", "001", "110"}
	for _, a := range zones {
		for _, b := range zones {
			m, n, o := full(2, a, 3), full(2, b, 3), full(3, b, 0)
			x, y, z := shelved(t, m), shelved(t, n), shelved(t, o)
			if sibling, some := path.Sibling(pathOf(a)); !some || sibling != pathOf(b) {
				joinRefuses(t, x, y)
				joinRefuses(t, y, x)
			}
			joinRefuses(t, x, x)
			joinRefuses(t, x, z)
			joinRefuses(t, z, x)
			tells(t, x, m)
			tells(t, y, n)
			tells(t, z, o)
		}
	}
}

// P1003: Join of tables with unlike Seqs: of each client the greater one; with the same Seq: the first one's answer.
func TestJoinOfTables(t *testing.T) {
	m := &plain{k: 1, zone: "0", told: []note{{0, 1, told("a", 1)}, {1, 9, told("b", 1)}, {2, 5, told("x", 1)}, {3, 5, told("same", 1)}, {7, lastSeq, point.Ans{}}}}
	n := &plain{k: 1, zone: "1", told: []note{{0, 2, told("c", 1)}, {1, 8, told("d", 1)}, {2, 5, told("y", 1)}, {3, 5, told("same", 1)}, {6, 1, told("e", 1)}}}
	x, y := shelved(t, m), shelved(t, n)
	for _, z := range []*shelf.Shelf{joinIs(t, x, m, y, n), joinIs(t, y, n, x, m)} {
		lookIs(t, z, 0, 2, session.Again, told("c", 1))
		lookIs(t, z, 0, 1, session.Past, point.Ans{})
		lookIs(t, z, 1, 9, session.Again, told("b", 1))
		lookIs(t, z, 3, 5, session.Again, told("same", 1))
		lookIs(t, z, 6, 1, session.Again, told("e", 1))
		lookIs(t, z, 7, lastSeq, session.Again, point.Ans{})
		lookIs(t, z, 4, 1, session.Fresh, point.Ans{})
	}
	lookIs(t, joinIs(t, x, m, y, n), 2, 5, session.Again, told("x", 1))
	lookIs(t, joinIs(t, y, n, x, m), 2, 5, session.Again, told("y", 1))
}

// sames: Same is so, both ways.
func sames(t *testing.T, x, y *shelf.Shelf, want bool) {
	t.Helper()
	if x.Same(y) != want || y.Same(x) != want {
		t.Errorf("of %v, %v and %v, %v: Same is not %v", x.Zone(), x.Put(), y.Zone(), y.Put(), want)
	}
}

// P1004: Same of shelves that differ in nothing, however they came to it.
func TestSame(t *testing.T) {
	for _, n := range []int{0, 1, 20, 100} {
		m := full(3, "01", n)
		x := shelved(t, m)
		backwards := m.copyOf()
		slices.Reverse(backwards.recs)
		slices.Reverse(backwards.told)
		for _, y := range []*shelf.Shelf{x, x.Clone(), shelved(t, m), shelved(t, backwards)} {
			sames(t, x, y, true)
		}
	}
	x, _ := made(t, 1, "")
	y, _ := made(t, 1, "")
	sames(t, x, y, true)
	x.Apply(by(0, 3, put(cell(0, 0), "k", "v")))
	x.Apply(by(0, 4, del(cell(0, 0), "k")))
	y.Apply(by(0, 1, put(cell(1, 1), "l", "v")))
	y.Apply(by(0, 4, del(cell(1, 1), "l")))
	sames(t, x, y, true)
}

// P1004: Same of shelves that differ in k, and in the zone, and in nothing else.
func TestNotSameByKOrZone(t *testing.T) {
	for _, m := range []*plain{{k: 2, zone: "00"}, {k: 2, zone: "00", told: full(2, "", 0).told}, {k: 2, zone: "00", recs: []point.Rec{{Key: "k", Ver: 1}}}} {
		x := shelved(t, m)
		for _, o := range []plain{{k: 3, zone: "00"}, {k: 2, zone: "0"}, {k: 2, zone: "000"}, {k: 2}, {k: 1, zone: "00"}, {k: api.MaxK, zone: "00"}} {
			o.recs, o.told = m.recs, m.told
			sames(t, x, shelved(t, &o), false)
		}
		if len(m.recs) == 0 {
			sames(t, x, shelved(t, &plain{k: 2, zone: "01", told: m.told}), false)
		}
	}
}

// P1004: Same of shelves that differ in one record, in one thing of it, or in one answer.
func TestNotSameByOne(t *testing.T) {
	for _, n := range []int{1, 4, 30} {
		m := full(3, "1", n)
		x := shelved(t, m)
		differs := func(change func(o *plain)) {
			t.Helper()
			o := m.copyOf()
			change(o)
			sames(t, x, shelved(t, o), false)
		}
		for i := range m.recs {
			differs(func(o *plain) { o.recs = slices.Delete(o.recs, i, i+1) })
			differs(func(o *plain) { o.recs[i].Ver++ })
			differs(func(o *plain) { o.recs[i].Value += "x" })
			differs(func(o *plain) { o.recs[i].Key += "x" })
			differs(func(o *plain) { o.recs[i].At.X ^= 1 })
			differs(func(o *plain) { o.recs[i].At.Y ^= 1 })
		}
		differs(func(o *plain) { o.recs = append(o.recs, point.Rec{At: cell(7, 7), Key: "more", Ver: 1}) })
		for i := range m.told {
			differs(func(o *plain) { o.told = slices.Delete(o.told, i, i+1) })
			differs(func(o *plain) { o.told[i].seq++ })
			differs(func(o *plain) { o.told[i].client++ })
			differs(func(o *plain) { o.told[i].a.E = api.ErrFull })
			differs(func(o *plain) { o.told[i].a.Ver++ })
		}
		differs(func(o *plain) { o.told = append(o.told, note{7, 1, point.Ans{}}) })
	}
}

// P1004: a Clone tells the same; what is applied to it is not in the other one, and the other way round.
func TestClone(t *testing.T) {
	for _, k := range []int{1, 4} {
		for _, zone := range someZones(k) {
			for _, size := range []int{0, 1, 5, 63} {
				m := full(k, zone, size)
				x := shelved(t, m)
				c, o := x.Clone(), m.copyOf()
				tells(t, c, o)
				z := area(k, zone)
				at := cell(z.X, z.Y)
				applies(t, c, o, by(0, 100, put(at, "k0", "clone")))
				applies(t, c, o, by(1, 100, put(at, "clone", "")))
				tells(t, x, m)
				applies(t, x, m, by(0, 50, del(at, "k0")))
				applies(t, x, m, by(1, 50, put(at, "own", "w")))
				applies(t, x, m, by(1, 51, put(at, "own", "x")))
				tells(t, c, o)
				applies(t, c, o, by(2, 100, get(at, "own")))
				tells(t, x, m)
				tells(t, c.Clone(), o)
			}
		}
	}
}
