package entry_test

import (
	"math"
	"slices"
	"testing"

	"glebe/api"
	"glebe/entry"
	"glebe/point"
)

// get: a call that may be.
func get() point.Op { return point.Op{Kind: 1, Key: "k", Seq: 1} }

// samples: of each Kind some that may be.
func samples() []entry.Entry {
	return []entry.Entry{
		{Kind: 1, Op: get()},
		{Kind: 1, Op: point.Op{Kind: 2, At: api.Point{X: 300, Y: lastCell}, Key: long(16), Value: long(32), Client: 7, Seq: lastSeq}},
		{Kind: 1, Op: point.Op{Kind: 3, Key: "\x00", Seq: 128}, Chain: []int{}},
		{Kind: 2},
		{Kind: 2, Node: 7},
		{Kind: 3},
		{Kind: 3, Node: 7, Chain: []int{}},
		{Kind: 4, Node: 0, Epoch: 1, By: 1, Chain: []int{0}},
		{Kind: 4, Node: 7, Epoch: lastEpoch, By: 0, Chain: []int{6, 7, 3}},
		{Kind: 5, Node: 1, Epoch: 2, By: 7, Chain: []int{1, 0}},
		{Kind: 5, Node: 4, Epoch: lastEpoch - 1, By: 3, Chain: []int{7, 6, 5, 4, 2, 1, 0}},
	}
}

// wrongNumbers: no nodes.
func wrongNumbers() []int {
	return []int{-1, -2, 8, 9, 15, 16, 128, 256, 1 << 32, lastEpoch, lastNum, lastNum + 1, math.MinInt, math.MinInt + 1, math.MaxInt}
}

// The chapter's example.
func TestExample(t *testing.T) {
	b, e := entry.Put(entry.Entry{Kind: entry.Add, Node: 3})
	if e != api.OK || !slices.Equal(b, []byte{2, 3}) {
		t.Errorf("Put: %v, %d", b, e)
	}
}

// The constants are as the chapter writes them.
func TestConstants(t *testing.T) {
	if !slices.Equal([]int{entry.Call, entry.Add, entry.Drop, entry.Split, entry.Move}, []int{1, 2, 3, 4, 5}) {
		t.Error("a Kind is another one")
	}
	if entry.MaxEpoch != lastEpoch {
		t.Errorf("MaxEpoch: %d", entry.MaxEpoch)
	}
}

// chainIs: RightChain, as it is meant here and by the model.
func chainIs(t *testing.T, l []int, want bool) {
	t.Helper()
	if got := holdsChain(t, l); got != want {
		t.Errorf("may %v be: %v", l, got)
	}
}

// P1102: RightChain of chains that may be: of nothing, of one node, of all.
func TestChains(t *testing.T) {
	for _, l := range [][]int{nil, {}, {0}, {7}, {0, 7}, {7, 0}, {3, 1, 4, 5}, {0, 1, 2, 3, 4, 5, 6, 7}, {7, 6, 5, 4, 3, 2, 1, 0}, {5, 0, 7, 1, 6, 2, 4, 3}} {
		chainIs(t, l, true)
	}
	for node := range nodes {
		chainIs(t, []int{node}, true)
		chainIs(t, []int{node, (node + 1) % nodes}, true)
	}
}

// P1102: RightChain of a node twice, beside itself, at both ends, with all others.
func TestChainsWithANodeTwice(t *testing.T) {
	all := []int{0, 1, 2, 3, 4, 5, 6, 7}
	for _, l := range [][]int{{0, 0}, {7, 7}, {0, 1, 0}, {1, 0, 0}, {7, 1, 2, 7}, {3, 3, 3}, {0, 0, 0, 0, 0, 0, 0, 0}} {
		chainIs(t, l, false)
	}
	for node := range nodes {
		chainIs(t, append(slices.Clone(all), node), false)
		chainIs(t, append([]int{node}, all...), false)
		chainIs(t, slices.Insert(slices.Clone(all), node, node), false)
	}
	chainIs(t, make([]int, 1<<16), false)
}

// P1102: RightChain of what is no node, at each place.
func TestChainsOfWrongNumbers(t *testing.T) {
	for _, n := range wrongNumbers() {
		chainIs(t, []int{n}, false)
		for i := range 5 {
			chainIs(t, slices.Insert([]int{2, 0, 7, 5}, i, n), false)
		}
		chainIs(t, slices.Repeat([]int{n}, 1<<12), false)
	}
}

// P1102: all chains of up to four numbers from -1 to MaxNodes.
func TestAllShortChains(t *testing.T) {
	right := 0
	for i := range 11 * 11 * 11 * 11 {
		var l []int
		for ; i > 0; i /= 11 {
			if i%11 > 0 {
				l = append(l, i%11-2)
			}
		}
		if holdsChain(t, l) {
			right++
		}
	}
	if right < 1000 {
		t.Errorf("just %d may be", right)
	}
}

// is: Right, as it is meant here and by the model.
func is(t *testing.T, e entry.Entry, want bool) {
	t.Helper()
	if got := holds(t, e); got != want {
		t.Errorf("may %v be: %v", e, got)
	}
}

// P1102: Right of what may be; a chain of nothing, where there may be none, may be an empty list, too.
func TestRight(t *testing.T) {
	for _, e := range samples() {
		is(t, e, true)
		if e.Kind < 4 {
			e.Chain = nil
			is(t, e, true)
			e.Chain = []int{}
			is(t, e, true)
			e.Chain = make([]int, 0, 8)
			is(t, e, true)
		}
	}
	for node := range nodes {
		is(t, entry.Entry{Kind: 2, Node: node}, true)
		is(t, entry.Entry{Kind: 3, Node: node}, true)
		for by := range nodes {
			is(t, entry.Entry{Kind: 4, Node: node, Epoch: 1, By: by, Chain: []int{node}}, node != by)
			is(t, entry.Entry{Kind: 5, Node: node, Epoch: 1, By: by, Chain: []int{node}}, node != by)
		}
	}
}

// P1102: Right of a Kind that is none, with what another Kind has, and with nothing.
func TestWrongKinds(t *testing.T) {
	for _, kind := range []int{0, 6, 7, -1, -5, 255, 256, 257, 1<<32 + 1, math.MinInt, math.MaxInt} {
		is(t, entry.Entry{Kind: kind}, false)
		for _, e := range samples() {
			e.Kind = kind
			is(t, e, false)
		}
	}
	is(t, entry.Entry{}, false)
}

// P1102: Right of what another Kind has.
func TestOtherKinds(t *testing.T) {
	for _, e := range samples() {
		was := e.Kind
		for kind := 1; kind <= 5; kind++ {
			e.Kind = kind
			is(t, e, kind == was || was > 3 && kind > 3 || (was == 2 || was == 3) && (kind == 2 || kind == 3))
		}
	}
}

// P1102: Right of a Call whose call may not be.
func TestCallsThatMayNotBe(t *testing.T) {
	for _, o := range []point.Op{
		{},
		{Kind: 0, Key: "k", Seq: 1},
		{Kind: 4, Key: "k", Seq: 1},
		{Kind: 1, Key: "", Seq: 1},
		{Kind: 1, Key: long(17), Seq: 1},
		{Kind: 1, Key: "k", Value: "v", Seq: 1},
		{Kind: 3, Key: "k", Value: "v", Seq: 1},
		{Kind: 2, Key: "k", Value: long(33), Seq: 1},
		{Kind: 1, Key: "k", Seq: 0},
		{Kind: 1, Key: "k", Seq: lastSeq + 1},
		{Kind: 1, Key: "k", Seq: 1, Client: -1},
		{Kind: 1, Key: "k", Seq: 1, Client: 8},
		{Kind: 1, Key: "k", Seq: 1, At: api.Point{X: -1}},
		{Kind: 1, Key: "k", Seq: 1, At: api.Point{Y: lastCell + 1}},
		{Kind: 1, Key: long(1 << 16), Seq: math.MaxInt, Client: math.MinInt},
	} {
		is(t, entry.Entry{Kind: 1, Op: o}, false)
	}
}

// P1102: Right of an entry with something, in turn, in each field that must be zero.
func TestFieldsThatMustBeZero(t *testing.T) {
	ops := []point.Op{get(), {Kind: 1}, {At: api.Point{X: 1}}, {At: api.Point{Y: -1}}, {Key: "k"}, {Value: "v"}, {Client: 1}, {Seq: 1}, {Seq: math.MinInt}}
	numbers := []int{1, 7, -1, 8, math.MinInt, math.MaxInt}
	chains := [][]int{{0}, {7}, {0, 1}, {-1}, {0, 0}}
	for _, e := range samples() {
		must := func(field int) bool { return !slices.Contains(named(e.Kind), field) }
		for _, o := range ops {
			if x := e; must(fieldOp) {
				x.Op = o
				is(t, x, false)
			}
		}
		for _, n := range numbers {
			x, y, z := e, e, e
			x.Node, y.Epoch, z.By = n, n, n
			if must(fieldNode) {
				is(t, x, false)
			}
			if must(fieldEpoch) {
				is(t, y, false)
			}
			if must(fieldBy) {
				is(t, z, false)
			}
		}
		for _, l := range chains {
			if x := e; must(fieldChain) {
				x.Chain = l
				is(t, x, false)
			}
		}
	}
}

// P1102: Right of an Add and a Drop of what is no node.
func TestWrongNodes(t *testing.T) {
	for _, n := range wrongNumbers() {
		is(t, entry.Entry{Kind: 2, Node: n}, false)
		is(t, entry.Entry{Kind: 3, Node: n}, false)
	}
}

// moves: a Split and a Move of these.
func moves(node, epoch, by int, chain ...int) []entry.Entry {
	return []entry.Entry{
		{Kind: 4, Node: node, Epoch: epoch, By: by, Chain: chain},
		{Kind: 5, Node: node, Epoch: epoch, By: by, Chain: chain},
	}
}

// areMoves: Right of a Split and a Move of these.
func areMoves(t *testing.T, want bool, node, epoch, by int, chain ...int) {
	t.Helper()
	for _, e := range moves(node, epoch, by, chain...) {
		is(t, e, want)
	}
}

// P1102: Right of Splits and Moves: Epochs at their ends, Node and By the same, Chain without Node, with By.
func TestMoves(t *testing.T) {
	for _, epoch := range []int{1, 2, 300, lastEpoch - 1, lastEpoch} {
		areMoves(t, true, 2, epoch, 1, 3, 2)
	}
	for _, epoch := range []int{0, -1, -lastEpoch, lastEpoch + 1, 2 * lastEpoch, lastNum, math.MinInt, math.MaxInt} {
		areMoves(t, false, 2, epoch, 1, 3, 2)
	}
	areMoves(t, true, 0, 1, 7, 0)
	areMoves(t, true, 7, 1, 0, 7)
	areMoves(t, true, 2, 1, 0, 1, 2, 3, 4, 5, 6, 7)
	areMoves(t, false, 2, 1, 2, 2)
	areMoves(t, false, 2, 1, 2, 3)
	areMoves(t, false, 2, 1, 2)
	areMoves(t, false, 2, 1, 1)
	areMoves(t, false, 0, 1, 1)
	areMoves(t, false, 2, 1, 1, 3)
	areMoves(t, false, 2, 1, 1, 3, 4, 5, 6, 7, 0)
	areMoves(t, false, 2, 1, 1, 2, 1)
	areMoves(t, false, 2, 1, 1, 1, 2)
	areMoves(t, false, 2, 1, 1, 0, 1, 2, 3, 4, 5, 6, 7)
	areMoves(t, false, 2, 1, 1, 2, 2)
	areMoves(t, false, 2, 1, 1, 2, 3, 3)
	for _, n := range wrongNumbers() {
		areMoves(t, false, n, 1, 1, 2)
		areMoves(t, false, n, 1, 1, n)
		areMoves(t, false, 2, 1, n, 2)
		areMoves(t, false, 2, 1, 1, 2, n)
		areMoves(t, false, n, 1, n, n)
	}
	for _, e := range moves(2, 1, 1) {
		e.Chain = []int{}
		is(t, e, false)
		e.Chain = slices.Repeat([]int{2, 3}, 1<<15)
		is(t, e, false)
	}
}

// sames: Same is so, both ways.
func sames(t *testing.T, a, b entry.Entry, want bool) {
	t.Helper()
	if entry.Same(a, b) != want || entry.Same(b, a) != want {
		t.Errorf("of %v and %v: Same is not %v", a, b, want)
	}
}

// strange: such as may not be.
func strange() []entry.Entry {
	return []entry.Entry{
		{},
		{Kind: 6, Op: get(), Node: 3, Epoch: 4, By: 5, Chain: []int{6, 6, -1}},
		{Kind: -1, Op: point.Op{Kind: -1, At: api.Point{X: -1, Y: 1 << 40}, Key: long(100), Value: long(200), Client: -1, Seq: -1}, Node: math.MinInt, Epoch: math.MaxInt, By: -1, Chain: []int{math.MinInt, 0, 0, 9}},
	}
}

// P1102: Same of an entry and itself, may it be or not; a chain of nothing is no chain.
func TestSame(t *testing.T) {
	for _, e := range append(samples(), strange()...) {
		sames(t, e, e, true)
		x := e
		x.Chain = slices.Clone(e.Chain)
		sames(t, e, x, true)
		x.Chain = append(make([]int, 0, 100), e.Chain...)
		sames(t, e, x, true)
		e.Chain, x.Chain = nil, []int{}
		sames(t, e, x, true)
		x.Chain = make([]int, 0, 8)
		sames(t, e, x, true)
	}
	for i, a := range samples() {
		for j, b := range samples() {
			sames(t, a, b, i == j)
		}
	}
}

// others: entries that differ from this one in a single field, or in a part of it.
func others(e entry.Entry) []entry.Entry {
	l := slices.Repeat([]entry.Entry{e}, 13)
	l[0].Kind++
	l[1].Op.Kind++
	l[2].Op.At.X++
	l[3].Op.At.Y++
	l[4].Op.Key += "\x00"
	l[5].Op.Value += "\x00"
	l[6].Op.Client++
	l[7].Op.Seq++
	l[8].Node++
	l[9].Epoch++
	l[10].By++
	l[11].Chain = append(slices.Clone(e.Chain), 0)
	l[12].Chain = append([]int{7}, e.Chain...)
	for i := range e.Chain {
		x := e
		x.Chain = slices.Clone(e.Chain)
		x.Chain[i]++
		y := e
		y.Chain = slices.Delete(slices.Clone(e.Chain), i, i+1)
		l = append(l, x, y)
	}
	return l
}

// P1102: Same of entries that differ in one field each, and of chains in another order.
func TestNotSame(t *testing.T) {
	for _, e := range append(samples(), strange()...) {
		for _, x := range others(e) {
			if alike(e, x) {
				t.Fatalf("%v does not differ", x)
			}
			sames(t, e, x, false)
		}
	}
	sames(t, moves(2, 1, 1, 2, 3)[0], moves(2, 1, 1, 3, 2)[0], false)
	sames(t, moves(2, 1, 1, 2)[0], moves(2, 1, 1)[0], false)
	sames(t, entry.Entry{Chain: []int{0}}, entry.Entry{}, false)
}

// P1102: Without of a node that stands there once, more than once, not at all, of any list.
func TestWithout(t *testing.T) {
	for _, x := range []struct {
		l    []int
		node int
		want []int
	}{
		{nil, 0, nil},
		{[]int{}, 3, nil},
		{[]int{3}, 3, nil},
		{[]int{3}, 4, []int{3}},
		{[]int{0}, 0, nil},
		{[]int{3, 1, 2}, 3, []int{1, 2}},
		{[]int{3, 1, 2}, 1, []int{3, 2}},
		{[]int{3, 1, 2}, 2, []int{3, 1}},
		{[]int{3, 1, 2}, 0, []int{3, 1, 2}},
		{[]int{3, 1, 3, 3, 2, 3}, 3, []int{1, 2}},
		{[]int{3, 3, 3}, 3, nil},
		{[]int{1, 1, 2, 1, 1}, 1, []int{2}},
		{[]int{2, 1, 1, 2}, 1, []int{2, 2}},
		{[]int{7, 6, 5, 4, 3, 2, 1, 0}, 7, []int{6, 5, 4, 3, 2, 1, 0}},
		{[]int{7, 6, 5, 4, 3, 2, 1, 0}, 0, []int{7, 6, 5, 4, 3, 2, 1}},
		{[]int{-1, 8, -1, 100}, -1, []int{8, 100}},
		{[]int{-1, 8, 8, 100}, 8, []int{-1, 100}},
		{[]int{math.MinInt, 1, math.MaxInt}, math.MinInt, []int{1, math.MaxInt}},
		{[]int{math.MinInt, 1, math.MaxInt}, math.MaxInt, []int{math.MinInt, 1}},
	} {
		if got := entry.Without(x.l, x.node); !slices.Equal(got, x.want) || !slices.Equal(got, left(x.l, x.node)) {
			t.Errorf("Without(%v, %d) = %v, want %v", x.l, x.node, got, x.want)
		}
	}
	l := slices.Repeat([]int{1, 2, 2}, 1<<15)
	if got := entry.Without(l, 2); len(got) != 1<<15 || slices.Contains(got, 2) {
		t.Errorf("of a long list %d are left", len(got))
	}
	if got := entry.Without(l, 3); !slices.Equal(got, l) {
		t.Errorf("of a long list without it %d are left", len(got))
	}
}

// P1102, P1104: Heirs of Splits and Moves that may be.
func TestHeirs(t *testing.T) {
	for _, x := range []struct {
		chain  []int
		node   int
		second []int
	}{
		{[]int{2}, 2, []int{1}},
		{[]int{2, 3}, 2, []int{1, 3}},
		{[]int{2, 3}, 3, []int{1, 2}},
		{[]int{7, 0, 5}, 0, []int{1, 7, 5}},
		{[]int{7, 6, 5, 4, 3, 2, 0}, 4, []int{1, 7, 6, 5, 3, 2, 0}},
	} {
		l := moves(x.node, 5, 1, x.chain...)
		if first, second := entry.Heirs(l[0]); !slices.Equal(first, x.chain) || !slices.Equal(second, x.second) {
			t.Errorf("of a Split of %v: %v and %v", x.chain, first, second)
		}
		if first, second := entry.Heirs(l[1]); len(first) != 0 || !slices.Equal(second, x.second) {
			t.Errorf("of a Move of %v: %v and %v", x.chain, first, second)
		}
		hasHeirs(t, l[0])
		hasHeirs(t, l[1])
	}
	for _, e := range samples() {
		hasHeirs(t, e)
	}
}

// noHeirs: Heirs answers nothing.
func noHeirs(t *testing.T, e entry.Entry) {
	t.Helper()
	if first, second := entry.Heirs(e); len(first) != 0 || len(second) != 0 {
		t.Errorf("Heirs of %v: %v and %v", e, first, second)
	}
}

// P1102: Heirs of other Kinds, and of Splits and Moves that may not be: nothing.
func TestNoHeirs(t *testing.T) {
	for _, e := range append(samples(), strange()...) {
		if e.Kind < 4 {
			noHeirs(t, e)
		}
		for _, kind := range []int{0, 6, -4, math.MaxInt} {
			x := e
			x.Kind = kind
			noHeirs(t, x)
		}
		for _, x := range others(e) {
			hasHeirs(t, x)
			if !may(x) {
				noHeirs(t, x)
			}
		}
	}
	for _, l := range [][]entry.Entry{moves(2, 0, 1, 2), moves(2, lastEpoch+1, 1, 2), moves(2, 1, 2, 2), moves(2, 1, 1), moves(2, 1, 1, 3), moves(2, 1, 1, 2, 1), moves(2, 1, 1, 2, 3, 3), moves(8, 1, 1, 8), moves(2, 1, -1, 2)} {
		noHeirs(t, l[0])
		noHeirs(t, l[1])
	}
	for kind := 1; kind <= 3; kind++ {
		noHeirs(t, entry.Entry{Kind: kind, Node: 2, Epoch: 1, By: 1, Chain: []int{2}})
	}
	for _, e := range moves(2, 1, 1, 2) {
		e.Op = get()
		noHeirs(t, e)
	}
}

// P1102: Clone of any is the same, and apart: what is changed in one is not in the other one.
func TestClone(t *testing.T) {
	for _, e := range append(samples(), strange()...) {
		kept := slices.Clone(e.Chain)
		c := entry.Clone(e)
		if !alike(c, e) || !entry.Same(c, e) {
			t.Errorf("Clone of %v: %v", e, c)
		}
		c.Kind, c.Op.Key, c.Node, c.Epoch, c.By = 9, "other", 9, 9, 9
		for i := range c.Chain {
			c.Chain[i] = 9
		}
		fill(c.Chain)
		if !slices.Equal(e.Chain, kept) || e.Op.Key == "other" || e.Node == 9 {
			t.Errorf("what was changed in the clone is changed in %v", e)
		}
		c = entry.Clone(e)
		fill(e.Chain)
		if !slices.Equal(c.Chain, kept) {
			t.Errorf("what was changed in the other one is changed in %v", c)
		}
	}
	if c := entry.Clone(entry.Entry{Chain: []int{}}); len(c.Chain) != 0 || !entry.Same(c, entry.Entry{}) {
		t.Errorf("Clone of nothing: %v", c)
	}
}
