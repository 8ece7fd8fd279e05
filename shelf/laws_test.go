package shelf_test

import (
	"math"
	"math/rand"
	"slices"
	"testing"

	"glebe/api"
	"glebe/path"
	"glebe/point"
	"glebe/session"
	"glebe/shelf"
	"glebe/torus"
	"glebe/window"
	"glebe/wire"
)

// outcome: of a call.
type outcome struct {
	kind  int
	e     api.Errno // of Apply
	told  api.Errno // in the answer
	found bool
}

func outcomeOf(o point.Op, a point.Ans, e api.Errno) outcome {
	if e == api.ErrArg {
		o.Kind = 0
	}
	return outcome{o.Kind, e, a.E, a.Found}
}

// P1002: drawn calls, held against a plain list of records and of answers.
func TestDrawnCalls(t *testing.T) {
	seen := map[outcome]int{}
	for _, k := range []int{1, 2, 4, api.MaxK} {
		for seed, zone := range someZones(k) {
			r := rand.New(rand.NewSource(int64(100*k + seed)))
			m := drawnLists(r, k, zone, 90)
			x := shelved(t, m)
			for range 120 {
				o := drawnOp(r, m)
				a, e := applies(t, x, m, o)
				seen[outcomeOf(o, a, e)]++
			}
			tells(t, x.Clone(), m)
		}
	}
	for _, o := range []outcome{
		{e: api.ErrArg}, {kind: point.Get, e: api.ErrStale}, {kind: point.Put, e: api.ErrStale}, {kind: point.Del, e: api.ErrStale},
		{kind: point.Get}, {kind: point.Get, found: true}, {kind: point.Del}, {kind: point.Del, found: true},
		{kind: point.Put}, {kind: point.Put, found: true}, {kind: point.Put, told: api.ErrFull},
	} {
		if seen[o] < 10 {
			t.Errorf("%v was seen %d times", o, seen[o])
		}
	}
}

// P1005: a call that was applied is Again, and applied a second time, at once or behind others of other clients, it changes nothing.
func TestAsOftenAsOnce(t *testing.T) {
	again := 0
	for seed := range 60 {
		r := rand.New(rand.NewSource(int64(seed)))
		m := drawnLists(r, 3, "01", 70)
		x := shelved(t, m)
		var old []point.Op
		for range 40 {
			o := drawnOp(r, m)
			a, e := applies(t, x, m, o)
			if e != api.OK {
				continue
			}
			old = append(old, o)
			lookIs(t, x, o.Client, o.Seq, session.Again, a)
			applied(t, x, m, o, point.Ans{}, api.ErrStale)
			applied(t, x, m, old[r.Intn(len(old))], point.Ans{}, api.ErrStale)
			again++
		}
	}
	if again < 1000 {
		t.Errorf("just %d calls were done again", again)
	}
}

// halves: both children's Parts.
func halves(t *testing.T, x *shelf.Shelf) [2]*shelf.Shelf {
	t.Helper()
	var parts [2]*shelf.Shelf
	for bit := range parts {
		p, _ := path.Child(x.Zone(), bit)
		part, e := x.Part(p)
		if e != api.OK {
			t.Fatalf("Part(%v): %d", p, e)
		}
		parts[bit] = part
	}
	return parts
}

// halfOf: which half has the cell.
func halfOf(k int, zone string, at api.Point) int {
	if window.Has(area(k, zone+"1"), at) {
		return 1
	}
	return 0
}

// joined: both ways the same.
func joined(t *testing.T, parts [2]*shelf.Shelf) *shelf.Shelf {
	t.Helper()
	x, e := parts[0].Join(parts[1])
	y, f := parts[1].Join(parts[0])
	if e != api.OK || f != api.OK || !x.Same(y) {
		t.Fatalf("Join: %d, %d, of %v and %v", e, f, parts[0].Put(), parts[1].Put())
	}
	return x
}

// P1006: a call that is applied to the half that has its cell, and to the whole: the answers are the same, and behind Join all is.
func TestHalves(t *testing.T) {
	seen := map[outcome]int{}
	for _, k := range []int{1, 2, 5, api.MaxK} {
		for _, zone := range []string{"", "1", deep(k, "10"), deep(2*k-1, "011")} {
			r := rand.New(rand.NewSource(int64(k)))
			m := drawnLists(r, k, zone, 20)
			x := shelved(t, m)
			for range 100 {
				o := drawnOp(r, m)
				parts := halves(t, x)
				a, e := parts[halfOf(k, zone, o.At)].Apply(o)
				if b, f := applies(t, x, m, o); a != b || e != f {
					t.Fatalf("K %d, zone %q: %v: the half %v, %d, the whole %v, %d", k, zone, o, a, e, b, f)
				}
				if !joined(t, parts).Same(x) {
					t.Fatalf("K %d, zone %q, behind %v: halves of %v and %v, the whole %v", k, zone, o, parts[0].Put(), parts[1].Put(), x.Put())
				}
				seen[outcomeOf(o, a, e)]++
			}
		}
	}
	for kind := point.Get; kind <= point.Del; kind++ {
		if seen[outcome{kind: kind}] < 30 || seen[outcome{kind: kind, found: true}] < 30 {
			t.Errorf("of kind %d: %v", kind, seen)
		}
	}
}

// P1006: many calls, one behind the other, ahead of the Join.
func TestHalvesForLong(t *testing.T) {
	for seed := range 40 {
		r := rand.New(rand.NewSource(int64(seed)))
		m := drawnLists(r, 3, "1", 10)
		x := shelved(t, m)
		parts := halves(t, x)
		for range 30 {
			o := drawnOp(r, m)
			if look, _ := m.look(o.Client, o.Seq); look != session.Fresh {
				continue
			}
			a, e := parts[halfOf(3, "1", o.At)].Apply(o)
			if b, f := applies(t, x, m, o); a != b || e != f {
				t.Fatalf("%v: the half %v, %d, the whole %v, %d", o, a, e, b, f)
			}
		}
		tells(t, joined(t, parts), m)
	}
}

// P1007: Take of Put is the same, with anything behind it.
func TestThereAndBack(t *testing.T) {
	for seed := range 300 {
		r := rand.New(rand.NewSource(int64(seed)))
		k := 1 + r.Intn(api.MaxK)
		zones := someZones(k)
		m := drawnLists(r, k, zones[r.Intn(len(zones))], 80)
		x := shelved(t, m)
		behind := someText(r, r.Intn(20))
		from := wire.Open(append(x.Put(), behind...))
		y := shelf.Take(from, k, x.Zone())
		if from.Left() != len(behind) || from.Err() != api.OK {
			t.Fatalf("with %q behind: Left %d, Err %d", behind, from.Left(), from.Err())
		}
		sames(t, x, y, true)
		tells(t, y, m)
		applies(t, y, m.copyOf(), drawnOp(r, m))
		tells(t, x, m)
	}
}

// P1007: Join of both halves' Parts is the same.
func TestPartsAndJoin(t *testing.T) {
	for seed := range 100 {
		r := rand.New(rand.NewSource(int64(seed)))
		k := 1 + r.Intn(api.MaxK)
		zone := deep(r.Intn(2*k), "0110")
		m := drawnLists(r, k, zone, 100)
		x := shelved(t, m)
		y := joined(t, halves(t, x))
		sames(t, x, y, true)
		tells(t, y, m)
	}
}

// P1004: Same is so just if both tell the same.
func TestDrawnSame(t *testing.T) {
	same := 0
	for seed := range 400 {
		r := rand.New(rand.NewSource(int64(seed)))
		m := drawnLists(r, 2, "1", 8)
		x := shelved(t, m)
		y, n := x.Clone(), m.copyOf()
		for range r.Intn(3) {
			applies(t, y, n, drawnOp(r, n))
			applies(t, x, m, drawnOp(r, m))
		}
		sames(t, x, y, m.alike(n))
		if m.alike(n) {
			same++
		}
	}
	if same < 50 || same > 350 {
		t.Errorf("%d were the same", same)
	}
}

// spoilt: some bytes changed, put in or taken out, or an end cut off.
func spoilt(r *rand.Rand, b []byte) []byte {
	at := r.Intn(len(b))
	switch r.Intn(6) {
	case 0:
		return b[:at]
	case 1:
		return slices.Insert(b, at, byte(r.Intn(256)))
	case 2:
		return slices.Delete(b, at, at+1)
	case 3:
		b[at] = byte(r.Intn(256)) >> r.Intn(8)
	}
	return b
}

// someBytes: a shelf's, whose records may be turned, doubled, or lie beside the zone.
func someBytes(r *rand.Rand, k int, zone string) []byte {
	m := drawnLists(r, k, zone, 6)
	l := m.in(area(k, zone))
	if len(l) > 0 {
		i, j := r.Intn(len(l)), r.Intn(len(l))
		switch r.Intn(6) {
		case 0:
			l[i], l[j] = l[j], l[i]
		case 1:
			l = slices.Insert(l, i, l[i])
		case 2:
			l[i].At = cell(r.Intn(1<<k), r.Intn(1<<k))
		}
	}
	b := append(m.toldBytes(), num(len(l))...)
	for _, x := range l {
		b = append(b, recBytes(x)...)
	}
	return append(b, someText(r, r.Intn(4))...)
}

// P1004: Take of drawn bytes; what is taken is put as the bytes that it was taken from.
func TestDrawnBytes(t *testing.T) {
	r := rand.New(rand.NewSource(1))
	seen := map[api.Errno]int{}
	for i := range 6000 {
		k := 1 + r.Intn(3)
		zones := someZones(k)
		zone := zones[r.Intn(len(zones))]
		b := someBytes(r, k, zone)
		if i%2 == 0 {
			b = spoilt(r, b)
		}
		if i%10 == 0 {
			b = []byte(noRows + someText(r, r.Intn(30)))
		}
		seen[takes(t, b, k, zone)]++
	}
	for _, e := range []api.Errno{api.OK, api.ErrEnd, api.ErrForm} {
		if seen[e] < 400 {
			t.Errorf("%d was told %d times", e, seen[e])
		}
	}
}

// P1004: all short bytes of small numbers, behind answers of nothing.
func TestAllShortBytes(t *testing.T) {
	small := []byte{0, 1, 2, 128}
	for i := range 1 << 14 {
		b := []byte(noRows + "\x01")
		for j := range 7 {
			b = append(b, small[i>>(2*j)&3])
		}
		takes(t, b, 1, "0")
	}
}

// P1001: of shelves that came from one another each is applied to for itself.
func TestShelvesAreApart(t *testing.T) {
	for seed := range 10 {
		r := rand.New(rand.NewSource(int64(seed)))
		m := drawnLists(r, 3, "1", 30)
		x := shelved(t, m)
		shelves, lists := []*shelf.Shelf{x, x.Clone(), shelved(t, m)}, []*plain{m, m.copyOf(), m.copyOf()}
		for _, zone := range []string{"1", "10", "11", "110"} {
			part, _ := x.Part(pathOf(zone))
			shelves, lists = append(shelves, part), append(lists, m.part(zone))
		}
		both := [2]*shelf.Shelf{shelves[4], shelves[5]}
		shelves, lists = append(shelves, joined(t, both)), append(lists, m.copyOf())
		for i, y := range shelves {
			for range 5 {
				applies(t, y, lists[i], drawnOp(r, lists[i]))
			}
			for j, z := range shelves {
				tells(t, z, lists[j])
			}
		}
	}
}

// P1001: what is answered is new memory, its room, too; what was taken does not change with the bytes.
func TestAnswersAreApart(t *testing.T) {
	spoilBytes := func(b []byte) {
		for i := range b[:cap(b)] {
			b[:cap(b)][i] = 0x55
		}
	}
	for _, n := range []int{0, 1, 5, 70} {
		m := full(3, "0", n)
		x := shelved(t, m)
		one, two := x.Put(), x.Put()
		l, kept := x.In(area(3, "0")), x.In(area(3, "0"))
		spoilBytes(one)
		for i := range l[:cap(l)] {
			l[:cap(l)][i] = point.Rec{Key: "spoilt"}
		}
		if !slices.Equal(two, m.bytes()) || !slices.Equal(kept, m.in(area(3, "0"))) {
			t.Errorf("of %d records, two answers share memory", n)
		}
		y := shelf.Take(wire.Open(two), 3, pathOf("0"))
		spoilBytes(two)
		tells(t, y, m)
		tells(t, x, m)
		was := slices.Clone(kept)
		r := rand.New(rand.NewSource(int64(n)))
		for range 30 {
			applies(t, x, m, drawnOp(r, m))
		}
		if !slices.Equal(kept, was) {
			t.Errorf("of %d records, behind calls what was answered before is another one", n)
		}
	}
}

// P7: there is an answer, whatever is asked, and what is refused has changed nothing.
func TestAnything(t *testing.T) {
	numbers := []int{math.MinInt, math.MinInt + 1, -lastSeq, -1 << 32, -1, 0, 1, 2, 3, 8, 33, 64, 1 << 16, 1 << 30, 1 << 32, lastSeq, lastSeq + 1, math.MaxInt}
	for _, k := range []int{1, 2, api.MaxK} {
		m := full(k, "1", 4)
		x := shelved(t, m)
		for _, a := range numbers {
			for _, b := range numbers {
				look, ans := m.look(a, b)
				lookIs(t, x, a, b, look, ans)
				getIs(t, x, cell(a, b), "k", m.get(cell(a, b), "k"))
				p := api.Path{Depth: a, Bits: b}
				if y, e := x.Part(p); (e == api.OK) != (path.Right(k, p) && path.Above(pathOf("1"), p)) || (y == nil) != (e == api.ErrArg) {
					t.Fatalf("K %d: Part(%v) = %v, %d", k, p, y, e)
				}
				if y, e := shelf.New(a, p); (e == api.OK) != path.Right(a, p) || (y == nil) != (e == api.ErrArg) {
					t.Fatalf("New(%d, %v) = %v, %d", a, p, y, e)
				}
				if y, e := shelf.New(b, api.Path{Depth: a}); (e == api.OK) != path.Right(b, api.Path{Depth: a}) || (y == nil) != (e == api.ErrArg) {
					t.Fatalf("New(%d) of Depth %d = %v, %d", b, a, y, e)
				}
				if !(torus.Torus{K: k}).Has(cell(a, b)) {
					for _, o := range []point.Op{put(cell(a, b), "k", "v"), {Kind: a, At: cell(b, a), Key: "k", Client: a, Seq: b}} {
						if ans, e := x.Apply(o); ans != (point.Ans{}) || e != api.ErrArg {
							t.Fatalf("K %d: Apply(%v) = %v, %d", k, o, ans, e)
						}
					}
				}
			}
		}
		tells(t, x, m)
	}
}

// P8: the same calls have the same answers, and looks between them change nothing.
func TestAgain(t *testing.T) {
	r, s := rand.New(rand.NewSource(9)), rand.New(rand.NewSource(9))
	x, m := made(t, 2, "")
	y, n := made(t, 2, "")
	for range 400 {
		one, two := drawnOp(r, m), drawnOp(s, n)
		a, e := x.Apply(one)
		if b, f := y.Apply(two); a != b || e != f {
			t.Fatalf("%v: %v, %d, then %v, %d", one, a, e, b, f)
		}
		m.apply(one)
		n.apply(two)
		y.Get(two.At, two.Key)
		y.Look(two.Client, two.Seq)
		y.In(area(2, ""))
		joined(t, halves(t, y)).Same(y)
		shelf.Take(wire.Open(y.Put()), 2, y.Zone())
		sames(t, x, y, true)
	}
	tells(t, y, n)
}
