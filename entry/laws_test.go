package entry_test

import (
	"bytes"
	"math"
	"math/rand"
	"slices"
	"testing"

	"glebe/api"
	"glebe/entry"
	"glebe/point"
	"glebe/wire"
)

// fill: a list and the room behind it.
func fill(l []int) {
	for i := range l[:cap(l)] {
		l[:cap(l)][i] = -99
	}
}

func fillBytes(b []byte) {
	for i := range b[:cap(b)] {
		b[:cap(b)][i] = 0x55
	}
}

// P1103: what is put is taken as it was, with anything behind it.
func TestThereAndBack(t *testing.T) {
	r := rand.New(rand.NewSource(1))
	seen := map[int]int{}
	for range 20000 {
		e := drawn(r)
		seen[e.Kind]++
		is(t, e, true)
		b, fault := entry.Put(e)
		if fault != api.OK {
			t.Fatalf("Put of %v: %d", e, fault)
		}
		behind := someText(r, r.Intn(12))
		from := wire.Open(append(b, behind...))
		got := entry.Take(from)
		if !alike(got, e) || !entry.Same(got, e) || from.Left() != len(behind) || from.Err() != api.OK {
			t.Fatalf("%v, with %q behind, was taken as %v, Left %d, Err %d", e, behind, got, from.Left(), from.Err())
		}
	}
	for kind := 1; kind <= 5; kind++ {
		if seen[kind] < 1000 {
			t.Errorf("%d of Kind %d", seen[kind], kind)
		}
	}
}

// P1103: likewise of chains.
func TestChainsThereAndBack(t *testing.T) {
	r := rand.New(rand.NewSource(2))
	for range 10000 {
		l := drawnChain(r, nodes)
		chainIs(t, l, true)
		b, _ := entry.PutChain(l)
		behind := someText(r, r.Intn(12))
		from := wire.Open(append(b, behind...))
		if got := entry.TakeChain(from); !slices.Equal(got, l) || from.Left() != len(behind) || from.Err() != api.OK {
			t.Fatalf("%v, with %q behind, was taken as %v, Left %d, Err %d", l, behind, got, from.Left(), from.Err())
		}
	}
}

// P1102: Right and Put of drawn entries of which some fields were changed.
func TestChangedEntries(t *testing.T) {
	r := rand.New(rand.NewSource(3))
	right := 0
	for range 60000 {
		e := drawn(r)
		for range 1 + r.Intn(2) {
			e = changed(r, e)
		}
		if holds(t, e) {
			right++
		}
		hasHeirs(t, e)
	}
	if right < 10000 || right > 50000 {
		t.Errorf("%d may be", right)
	}
}

// P1102: Same of drawn entries and of such as were changed.
func TestDrawnSame(t *testing.T) {
	r := rand.New(rand.NewSource(4))
	same := 0
	for range 40000 {
		a := drawn(r)
		b := changed(r, a)
		sames(t, a, b, alike(a, b))
		if alike(a, b) {
			same++
		}
		c := drawn(r)
		sames(t, a, c, alike(a, c))
	}
	if same < 2000 || same > 30000 {
		t.Errorf("%d were the same", same)
	}
}

// P1102: Without of drawn lists and nodes.
func TestDrawnWithout(t *testing.T) {
	r := rand.New(rand.NewSource(5))
	for range 20000 {
		l := make([]int, r.Intn(12))
		for i := range l {
			l[i] = r.Intn(5) - 1
		}
		node := r.Intn(7) - 2
		if got, want := entry.Without(l, node), left(l, node); !slices.Equal(got, want) {
			t.Fatalf("Without(%v, %d) = %v, want %v", l, node, got, want)
		}
	}
}

// P1104: of drawn Splits and Moves: both lists may be chains; the second one has By first, and not Node; all of Chain but Node are in it.
func TestDrawnHeirs(t *testing.T) {
	r := rand.New(rand.NewSource(6))
	for range 20000 {
		e := drawnMove(r)
		hasHeirs(t, e)
		first, second := entry.Heirs(e)
		if !entry.RightChain(first) || !entry.RightChain(second) || !mayChain(first) || !mayChain(second) {
			t.Fatalf("of %v: %v and %v", e, first, second)
		}
		if len(second) != len(e.Chain) || second[0] != e.By || slices.Contains(second, e.Node) {
			t.Fatalf("of %v: the second are %v", e, second)
		}
		for _, n := range e.Chain {
			if slices.Contains(second, n) != (n != e.Node) {
				t.Fatalf("of %v: the second are %v", e, second)
			}
		}
		if split := e.Kind == entry.Split; split != (len(first) > 0) || split && !slices.Equal(first, e.Chain) {
			t.Fatalf("of %v: the first are %v", e, first)
		}
	}
}

// someMove: bytes such as a Split's, in which each field may be past its end.
func someMove(r *rand.Rand) []byte {
	l := r.Perm(nodes + r.Intn(2))[:r.Intn(nodes)]
	b := slices.Concat(num(4+r.Intn(2)), num(r.Intn(nodes)), num(end(r, 1, lastEpoch+r.Intn(2))), num(r.Intn(nodes)))
	if len(l) > 0 && r.Intn(4) > 0 {
		b[1] = byte(l[0])
	}
	return append(b, chainBytes(l)...)
}

// P1102, P1103: Take of drawn and spoilt bytes; what is taken without an error is put as the bytes that it was taken from.
func TestDrawnBytes(t *testing.T) {
	r := rand.New(rand.NewSource(7))
	seen := map[api.Errno]int{}
	for i := range 80000 {
		var b []byte
		switch i % 4 {
		case 0:
			b = []byte(someText(r, r.Intn(30)))
			if len(b) > 0 && i%8 == 0 {
				b[0] %= 8
			}
		case 1:
			b = someMove(r)
		case 2:
			b = written(drawn(r))
		default:
			b = spoilt(r, written(drawn(r)))
		}
		if len(b) > 0 && r.Intn(3) == 0 {
			b = spoilt(r, b)
		}
		seen[takes(t, b)]++
	}
	for _, e := range []api.Errno{api.OK, api.ErrEnd, api.ErrForm} {
		if seen[e] < 5000 {
			t.Errorf("%d was told %d times", e, seen[e])
		}
	}
}

// P1102, P1103: likewise of chains.
func TestDrawnChainBytes(t *testing.T) {
	r := rand.New(rand.NewSource(8))
	seen := map[api.Errno]int{}
	for range 40000 {
		b := chainBytes(drawnChain(r, nodes))
		for range r.Intn(3) {
			if len(b) > 0 {
				b = spoilt(r, b)
			}
		}
		seen[takesChain(t, b)]++
	}
	for _, e := range []api.Errno{api.OK, api.ErrEnd, api.ErrForm} {
		if seen[e] < 2000 {
			t.Errorf("%d was told %d times", e, seen[e])
		}
	}
}

// P1102, P1103: each beginning of drawn bytes.
func TestDrawnBeginnings(t *testing.T) {
	r := rand.New(rand.NewSource(9))
	for range 2000 {
		b := written(drawn(r))
		for i := range b {
			ends(t, b[:i], api.ErrEnd)
		}
	}
}

// P1102, P1103: all short bytes of small numbers.
func TestAllShortBytes(t *testing.T) {
	small := []byte{0, 1, 2, 4, 5, 7, 8, 128}
	taken := 0
	for i := range 1 << 21 {
		b := make([]byte, 7)
		for j := range b {
			b[j] = small[i>>(3*j)&7]
		}
		if takes(t, b) == api.OK {
			taken++
		}
		if i < 1<<15 {
			takesChain(t, b[:5])
		}
	}
	if taken < 1000 {
		t.Errorf("just %d were taken", taken)
	}
}

// roomy: the list at the beginning of a longer one, whose rest is all 77.
func roomy(l []int) (part, whole []int) {
	whole = slices.Concat(l, slices.Repeat([]int{77}, 8))
	return whole[:len(l)], whole
}

// P1101: what is handed in is not changed, nor the room behind it.
func TestNothingIsChanged(t *testing.T) {
	r := rand.New(rand.NewSource(10))
	for range 5000 {
		e := changed(r, drawn(r))
		kept := e
		part, whole := roomy(e.Chain)
		was := slices.Clone(whole)
		e.Chain = part
		entry.Right(e)
		entry.Same(e, e)
		entry.Put(e)
		entry.Heirs(e)
		c := entry.Clone(e)
		entry.RightChain(part)
		entry.PutChain(part)
		l := entry.Without(part, e.Node)
		first, second := entry.Heirs(e)
		for _, x := range [][]int{c.Chain, l, first, second} {
			fill(x)
			_ = append(x, 5)
		}
		if !slices.Equal(whole, was) || !alike(e, kept) {
			t.Fatalf("%v has become %v", was, whole)
		}
	}
}

// P1101: what is answered is apart from what was handed in, and from all other answers.
func TestAnswersAreApart(t *testing.T) {
	r := rand.New(rand.NewSource(11))
	for range 5000 {
		e := drawnMove(r)
		part, whole := roomy(e.Chain)
		e.Chain = part
		kept := slices.Clone(part)
		wantFirst, wantSecond := heirs(e)
		wantLeft := left(part, e.By+1)
		c, d := entry.Clone(e), entry.Clone(e)
		first, second := entry.Heirs(e)
		one, two := entry.Heirs(e)
		l, m := entry.Without(part, e.By+1), entry.Without(part, e.By+1)
		fill(c.Chain)
		fill(first)
		fill(two)
		fill(l)
		fill(whole)
		if !slices.Equal(d.Chain, kept) || !slices.Equal(one, wantFirst) || !slices.Equal(second, wantSecond) || !slices.Equal(m, wantLeft) {
			t.Fatalf("of %v: %v, %v, %v, %v", kept, d.Chain, one, second, m)
		}
	}
}

// P1101: bytes that are put are new memory, their room, too; what was taken does not change with the bytes, nor with what else was taken.
func TestBytesAreApart(t *testing.T) {
	r := rand.New(rand.NewSource(12))
	for range 2000 {
		e := drawn(r)
		one, _ := entry.Put(e)
		two, _ := entry.Put(e)
		fillBytes(one)
		if !bytes.Equal(two, written(e)) {
			t.Fatalf("two answers share memory: %v", two)
		}
		double := slices.Concat(two, two)
		from := wire.Open(double)
		x, y := entry.Take(from), entry.Take(from)
		fillBytes(double)
		fill(x.Chain)
		if !alike(y, e) {
			t.Fatalf("%v has become %v", e, y)
		}
		a, _ := entry.PutChain(e.Chain)
		b, _ := entry.PutChain(e.Chain)
		fillBytes(a)
		l, m := entry.TakeChain(wire.Open(b)), entry.TakeChain(wire.Open(b))
		fill(l)
		if !slices.Equal(m, e.Chain) {
			t.Fatalf("%v has become %v", e.Chain, m)
		}
	}
}

// someNumber: huge, negative, or near to such as may be.
func someNumber(r *rand.Rand) int {
	l := []int{math.MinInt, math.MinInt + 1, -lastEpoch, -1 << 32, -1, 0, 0, 1, 2, 3, 4, 5, 6, 7, 8, 1 << 32, lastEpoch, lastEpoch + 1, lastNum, lastNum + 1, math.MaxInt - 1, math.MaxInt}
	return l[r.Intn(len(l))]
}

// someEntry: of any fields.
func someEntry(r *rand.Rand) entry.Entry {
	texts := []string{"", "", "a", "\xff", long(16), long(33), long(1 << 12)}
	e := entry.Entry{Kind: someNumber(r), Node: someNumber(r), Epoch: someNumber(r), By: someNumber(r)}
	if r.Intn(2) == 0 {
		e.Op = point.Op{Kind: someNumber(r), At: api.Point{X: someNumber(r), Y: someNumber(r)}, Key: texts[r.Intn(len(texts))], Value: texts[r.Intn(len(texts))], Client: someNumber(r), Seq: someNumber(r)}
	}
	for range r.Intn(6) {
		e.Chain = append(e.Chain, someNumber(r))
	}
	if r.Intn(50) == 0 {
		e.Chain = slices.Repeat(append(e.Chain, someNumber(r)), 1<<10)
	}
	return e
}

// P7: there is an answer, whatever is asked.
func TestAnything(t *testing.T) {
	r := rand.New(rand.NewSource(13))
	for range 20000 {
		a, b := someEntry(r), someEntry(r)
		holds(t, a)
		holdsChain(t, a.Chain)
		hasHeirs(t, a)
		sames(t, a, b, alike(a, b))
		if c := entry.Clone(a); !alike(c, a) {
			t.Fatalf("Clone of %v: %v", a, c)
		}
		if len(a.Chain) < 100 {
			node := someNumber(r)
			if got := entry.Without(a.Chain, node); !slices.Equal(got, left(a.Chain, node)) {
				t.Fatalf("Without(%v, %d) = %v", a.Chain, node, got)
			}
		}
	}
}

// P8: the same calls have the same answers.
func TestAgain(t *testing.T) {
	r := rand.New(rand.NewSource(14))
	for range 3000 {
		e := changed(r, drawn(r))
		one, fault := entry.Put(e)
		if two, again := entry.Put(e); !bytes.Equal(one, two) || fault != again {
			t.Fatalf("Put of %v: %v, %d, then %v, %d", e, one, fault, two, again)
		}
		b := spoilt(r, written(drawn(r)))
		x, y := wire.Open(b), wire.Open(b)
		if first, again := entry.Take(x), entry.Take(y); !alike(first, again) || x.Err() != y.Err() || x.Left() != y.Left() {
			t.Fatalf("Take of %v: %v, then %v", b, first, again)
		}
		a, c := entry.Heirs(e)
		if d, f := entry.Heirs(e); !slices.Equal(a, d) || !slices.Equal(c, f) {
			t.Fatalf("Heirs of %v: %v and %v, then %v and %v", e, a, c, d, f)
		}
	}
}
