package quad_test

import (
	"math"
	"math/rand"
	"slices"
	"strings"
	"testing"

	"glebe/api"
	"glebe/path"
	"glebe/point"
	"glebe/quad"
	"glebe/torus"
	"glebe/window"
)

// outcome: of a change.
type outcome struct {
	name string
	was  bool
	e    api.Errno
}

// spoil: one thing of the record that may not be.
func spoil(r *rand.Rand, k int, x point.Rec) point.Rec {
	switch r.Intn(5) {
	case 0:
		x.Key = ""
	case 1:
		x.Value = strings.Repeat("v", 33+r.Intn(3))
	case 2:
		x.Ver = -r.Intn(2)
	case 3:
		x.At.X += side(k)
	default:
		x.At.Y -= side(k)
	}
	return x
}

// change: a drawn one, in the tree and in the list, which end alike.
func change(t *testing.T, r *rand.Rand, x *quad.Tree, m *plain, growing bool) outcome {
	t.Helper()
	rec := drawn(r, m.k, m.zone)
	if len(m.l) > 0 && r.Intn(3) == 0 {
		there := m.l[r.Intn(len(m.l))]
		rec.At, rec.Key = there.At, there.Key
	}
	put := r.Intn(4) > 0
	if !growing {
		put = !put
	}
	if !put {
		want := m.del(rec.At, rec.Key)
		if was := x.Del(rec.At, rec.Key); was != want {
			t.Fatalf("K %d, zone %q, then %v: Del of %v: %v", m.k, m.zone, m.l, rec, was)
		}
		return outcome{name: "Del", was: want}
	}
	if r.Intn(8) == 0 {
		rec = spoil(r, m.k, rec)
	}
	want, e := m.put(rec)
	if was, f := x.Put(rec); was != want || f != e {
		t.Fatalf("K %d, zone %q, then %v: Put of %v: %v, %d", m.k, m.zone, m.l, rec, was, f)
	}
	return outcome{"Put", want, e}
}

// drive: so many drawn changes, with looks between them.
func drive(t *testing.T, r *rand.Rand, x *quad.Tree, m *plain, changes int, seen map[outcome]int) {
	t.Helper()
	for i := range changes {
		seen[change(t, r, x, m, i*7/changes%2 == 0)]++
		same(t, x, m)
	}
}

// P802, P803, P804: drawn changes and looks, held against a plain list.
func TestDrawnChanges(t *testing.T) {
	seen := map[outcome]int{}
	deepest := 0
	for _, k := range []int{1, 2, 3, 6, api.MaxK} {
		for seed, zone := range []string{"", "0", "1", "01", deep(k, "10"), deep(2*k-1, "1"), deep(2*k, "011")} {
			r := rand.New(rand.NewSource(int64(100*k + seed)))
			x, m := made(t, k, zone)
			drive(t, r, x, m, 250, seen)
			same(t, x.Clone(), m)
			deepest = max(deepest, m.shape().depth)
		}
	}
	for _, o := range []outcome{{"Put", false, 0}, {"Put", true, 0}, {"Put", false, api.ErrArg}, {"Del", true, 0}, {"Del", false, 0}} {
		if seen[o] < 100 {
			t.Errorf("%v was drawn %d times", o, seen[o])
		}
	}
	if deepest < 10 {
		t.Errorf("no tree was deeper than %d", deepest)
	}
}

// P803: drawn rectangles, of a tree with many records.
func TestInOfDrawnRectangles(t *testing.T) {
	for _, k := range []int{2, 4, api.MaxK} {
		for _, zone := range []string{"", "1", "01", "110"} {
			r := rand.New(rand.NewSource(int64(k)))
			x, m := made(t, k, zone, someRecs(r, k, zone, 60)...)
			z := rectOf(k, zone)
			for range 400 {
				a, b := someCell(r, z), someCell(r, z)
				w := window.Rect{X: min(a.X, b.X), Y: min(a.Y, b.Y), W: r.Intn(z.W + 2), H: r.Intn(z.H + 2)}
				if l, want := x.In(w), m.in(w); !slices.Equal(l, want) {
					t.Fatalf("K %d, zone %q, of %v: In(%v) = %v, want %v", k, zone, m.l, w, l, want)
				}
			}
		}
	}
}

// alike: two trees tell the same.
func alike(t *testing.T, x, y *quad.Tree) {
	t.Helper()
	if x.Zone() != y.Zone() || x.Len() != y.Len() || shapeOf(x) != shapeOf(y) || !slices.Equal(x.All(), y.All()) {
		t.Fatalf("%v, Shape %v, of %v; and %v, Shape %v, of %v", x.Zone(), shapeOf(x), x.All(), y.Zone(), shapeOf(y), y.All())
	}
}

// P804: the same records in unlike orders, all at once and one by one.
func TestNoOrder(t *testing.T) {
	for _, k := range []int{1, 2, 5, api.MaxK} {
		for _, zone := range []string{"", "1", "10", deep(k, "110")} {
			r := rand.New(rand.NewSource(int64(k)))
			for _, n := range []int{1, 4, 5, 6, 9, 30, 120} {
				l := someRecs(r, k, zone, n)
				x, m := made(t, k, zone, l...)
				same(t, x, m)
				for range 6 {
					r.Shuffle(len(l), func(i, j int) { l[i], l[j] = l[j], l[i] })
					y, _ := made(t, k, zone, l...)
					alike(t, x, y)
					z, _ := made(t, k, zone)
					for _, rec := range l {
						z.Put(rec)
					}
					alike(t, x, z)
					same(t, z, m)
				}
			}
		}
	}
}

// P804: with others between them that are gone again, and older ones in their place.
func TestNoTraceOfGoneOnes(t *testing.T) {
	for _, k := range []int{1, 3, api.MaxK} {
		for _, zone := range []string{"", "0", "11", deep(2*k, "10")} {
			r := rand.New(rand.NewSource(int64(k)))
			for _, n := range []int{0, 1, 4, 5, 12, 60} {
				l := someRecs(r, k, zone, n)
				x, m := made(t, k, zone, l...)
				y, _ := made(t, k, zone)
				for range 40 {
					y.Put(drawn(r, k, zone))
				}
				for _, rec := range l {
					y.Put(rec)
				}
				for _, rec := range y.All() {
					if m.place(rec.At, rec.Key) < 0 {
						y.Del(rec.At, rec.Key)
					}
				}
				alike(t, x, y)
				same(t, y, m)
			}
		}
	}
}

// P804: a tree that grew by one and lost it again is as it was, at each size.
func TestOneMoreAndGone(t *testing.T) {
	r := rand.New(rand.NewSource(3))
	for _, k := range []int{1, 2, api.MaxK} {
		x, m := made(t, k, "1")
		for range 40 {
			rec := drawn(r, k, "1")
			if m.place(rec.At, rec.Key) >= 0 {
				continue
			}
			was := shapeOf(x)
			x.Put(rec)
			x.Del(rec.At, rec.Key)
			shapeIs(t, x, was)
			same(t, x, m)
			puts(t, x, m, rec, false)
		}
	}
}

// P805: Join of both children's Parts is the tree.
func TestThereAndBack(t *testing.T) {
	for _, k := range []int{1, 2, 3, 8, api.MaxK} {
		for _, zone := range []string{"", "0", "1", "10"[:min(2, 2*k-1)], deep(2*k-2, "01"), deep(2*k-1, "011")} {
			r := rand.New(rand.NewSource(int64(k)))
			for _, n := range []int{0, 1, 4, 5, 8, 50} {
				x, m := made(t, k, zone, someRecs(r, k, zone, n)...)
				lower, e := x.Part(pathOf(zone + "0"))
				upper, f := x.Part(pathOf(zone + "1"))
				if e != api.OK || f != api.OK || lower.Len()+upper.Len() != x.Len() {
					t.Fatalf("K %d, zone %q: Parts %d, %d, of %v", k, zone, e, f, m.l)
				}
				joinIs(t, lower, upper, m)
				joinIs(t, upper, lower, m)
				back, _ := lower.Join(upper)
				alike(t, back, x)
				same(t, x, m)
			}
		}
	}
}

// P805: all the way down to single cells, and up again.
func TestDownAndUp(t *testing.T) {
	for _, k := range []int{1, 2, 3} {
		r := rand.New(rand.NewSource(int64(k)))
		x, m := made(t, k, "", someRecs(r, k, "", 40)...)
		same(t, downAndUp(t, x, k), m)
	}
}

func downAndUp(t *testing.T, x *quad.Tree, k int) *quad.Tree {
	t.Helper()
	if x.Zone().Depth == 2*k {
		return x
	}
	var halves [2]*quad.Tree
	for bit := range halves {
		p, _ := path.Child(x.Zone(), bit)
		part, e := x.Part(p)
		if e != api.OK {
			t.Fatalf("Part(%v): %d", p, e)
		}
		halves[bit] = downAndUp(t, part, k)
	}
	up, e := halves[1].Join(halves[0])
	if e != api.OK {
		t.Fatalf("Join below %v: %d", x.Zone(), e)
	}
	return up
}

// light: P806's bounds.
func light(t *testing.T, k int, x *quad.Tree) {
	t.Helper()
	s := shapeOf(x)
	if s.depth > k+1 || s.nodes > (x.Len()+1)*4*(k+1) || s.leaves > s.nodes || s.leaves < 1 {
		t.Fatalf("K %d, %d records: Shape %v", k, x.Len(), s)
	}
}

// P806: of heaps of five in cells that lie far from one another, and in zones of each depth.
func TestLight(t *testing.T) {
	for k := 1; k <= api.MaxK; k++ {
		r := rand.New(rand.NewSource(int64(k)))
		for depth := range 2*k + 1 {
			zone := deep(depth, "10")
			z := rectOf(k, zone)
			x, _ := made(t, k, zone)
			light(t, k, x)
			for range 15 {
				for _, rec := range heap(cell(z.X+r.Intn(z.W), z.Y+r.Intn(z.H)), 5) {
					x.Put(rec)
					light(t, k, x)
				}
			}
			for _, rec := range x.All() {
				x.Del(rec.At, rec.Key)
				light(t, k, x)
			}
		}
	}
}

// P806: of many records all over the torus, and of as many in one cell.
func TestLightOfMany(t *testing.T) {
	r := rand.New(rand.NewSource(1))
	x, _ := made(t, api.MaxK, "")
	for range 20000 {
		x.Put(rec(r.Intn(65536), r.Intn(65536), "k"))
	}
	light(t, api.MaxK, x)
	l := x.All()
	if x.Len() != len(l) || !slices.IsSortedFunc(l, byCell) {
		t.Errorf("Len %d, All %d", x.Len(), len(l))
	}
	pile, m := made(t, api.MaxK, "", heap(cell(65535, 1), 2000)...)
	light(t, api.MaxK, pile)
	if pile.Len() != 2000 || !slices.Equal(pile.All(), m.all()) {
		t.Errorf("Len %d", pile.Len())
	}
	for _, rec := range l {
		if !x.Del(rec.At, rec.Key) {
			t.Fatalf("%v was not there", rec)
		}
	}
	shapeIs(t, x, shape{1, 1, 0})
}

// fill: a list and the room behind it.
func fill(l []point.Rec) {
	l = l[:cap(l)]
	for i := range l {
		l[i] = point.Rec{At: cell(-7, -7), Key: "spoilt"}
	}
}

// P801: a list that was answered is its caller's.
func TestAnsweredListsAreApart(t *testing.T) {
	for _, k := range []int{1, 3, api.MaxK} {
		for _, n := range []int{0, 1, 4, 5, 40} {
			r := rand.New(rand.NewSource(int64(k)))
			x, m := made(t, k, "0", someRecs(r, k, "0", n)...)
			z := rectOf(k, "0")
			kept, some := x.All(), x.In(z)
			one, two := x.All(), x.In(z)
			fill(one)
			fill(two)
			same(t, x, m)
			was := m.all()
			if !slices.Equal(kept, was) || !slices.Equal(some, was) {
				t.Fatalf("K %d: two answers share memory", k)
			}
			drive(t, r, x, m, 30, map[outcome]int{})
			if !slices.Equal(kept, was) || !slices.Equal(some, was) {
				t.Fatalf("K %d: behind changes what was answered before is another one", k)
			}
		}
	}
}

// P801: what is handed in is neither changed, nor the room behind it, nor kept.
func TestHandedInIsNotKept(t *testing.T) {
	for _, n := range []int{1, 3, 4, 5, 20} {
		r := rand.New(rand.NewSource(int64(n)))
		room := someRecs(r, 3, "", 40)
		was := slices.Clone(room)
		x, m := made(t, 3, "", room[:n]...)
		if !slices.Equal(room, was) {
			t.Fatalf("New has changed what was handed in: %v", room)
		}
		fill(room)
		same(t, x, m)
		spoilt := slices.Clone(room)
		drive(t, r, x, m, 40, map[outcome]int{})
		if !slices.Equal(room, spoilt) {
			t.Fatalf("changes of the tree have changed what was handed in: %v", room)
		}
	}
}

// P801: a tree that was answered has nothing to do with those that it came from.
func TestAnsweredTreesAreApart(t *testing.T) {
	for _, k := range []int{2, 4, api.MaxK} {
		for _, n := range []int{0, 3, 4, 5, 30} {
			r := rand.New(rand.NewSource(int64(k + n)))
			x, m := made(t, k, "1", someRecs(r, k, "1", n)...)
			trees, lists := []*quad.Tree{x, x.Clone()}, []*plain{m, m.copyOf()}
			for _, zone := range []string{"1", "10", "11", "110"} {
				part, e := x.Part(pathOf(zone))
				if e != api.OK {
					t.Fatalf("Part(%q): %d", zone, e)
				}
				trees, lists = append(trees, part), append(lists, m.part(zone))
			}
			joined, e := trees[3].Join(trees[4])
			if e != api.OK {
				t.Fatalf("Join: %d", e)
			}
			trees, lists = append(trees, joined), append(lists, m.copyOf())
			for i, y := range trees {
				drive(t, r, y, lists[i], 12, map[outcome]int{})
				for j, z := range trees {
					same(t, z, lists[j])
				}
			}
		}
	}
}

// P7: there is an answer, whatever is asked, and it has changed nothing.
func TestAnything(t *testing.T) {
	numbers := []int{math.MinInt, math.MinInt + 1, -1 << 30, -1, 0, 1, 2, 3, 33, 64, 1 << 16, 1 << 30, 1<<30 + 1, 1 << 32, math.MaxInt}
	for _, k := range []int{1, 2, api.MaxK} {
		x, m := made(t, k, "1", rectRecs(k, "1")...)
		on := torus.Torus{K: k}
		for _, a := range numbers {
			for _, b := range numbers {
				if y, e := x.Part(api.Path{Depth: a, Bits: b}); (e == api.OK) != (path.Right(k, api.Path{Depth: a, Bits: b}) && path.Above(pathOf("1"), api.Path{Depth: a, Bits: b})) || (y == nil) != (e == api.ErrArg) {
					t.Fatalf("K %d: Part of Depth %d, Bits %d: %v, %d", k, a, b, y, e)
				}
				if y, e := quad.New(a, api.Path{Depth: b}); (e == api.OK) != path.Right(a, api.Path{Depth: b}) || (y == nil) != (e == api.ErrArg) {
					t.Fatalf("New of k %d, Depth %d: %v, %d", a, b, y, e)
				}
				c := cell(a, b)
				if !on.Has(c) || !has(rectOf(k, "1"), c) {
					_, there := x.Get(c, "a")
					was, e := x.Put(point.Rec{At: c, Key: "a", Ver: 1})
					if there || was || e != api.ErrArg || x.Del(c, "a") {
						t.Fatalf("K %d: at %v: %v, %v, %d", k, c, there, was, e)
					}
				}
				for _, n := range numbers {
					for _, r := range []window.Rect{{X: a, Y: b, W: n, H: 1}, {X: a, Y: 0, W: b, H: n}, {X: n, Y: a, W: 1 << 30, H: b}} {
						if l, want := x.In(r), m.in(r); !slices.Equal(l, want) {
							t.Fatalf("K %d: In(%v) = %v, want %v", k, r, l, want)
						}
					}
				}
			}
		}
		same(t, x, m)
	}
}

// P8: the same changes have the same answers, and looks between them change nothing.
func TestAgain(t *testing.T) {
	for _, k := range []int{1, 4, api.MaxK} {
		r, s := rand.New(rand.NewSource(5)), rand.New(rand.NewSource(5))
		x, m := made(t, k, "")
		y, n := made(t, k, "")
		for i := range 300 {
			growing := i%100 < 60
			if o, p := change(t, r, x, m, growing), change(t, s, y, n, growing); o != p {
				t.Fatalf("K %d: %v, then %v", k, o, p)
			}
			y.All()
			y.Shape()
			y.Part(api.Path{Depth: 1})
			y.Join(y.Clone())
			alike(t, x, y)
		}
		same(t, y, m)
	}
}
