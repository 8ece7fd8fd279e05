package entry_test

import (
	"bytes"
	"math/rand"
	"slices"
	"strings"
	"testing"

	"glebe/api"
	"glebe/entry"
	"glebe/point"
	"glebe/wire"
)

const (
	nodes     = 8
	lastEpoch = 1099511627776
	lastSeq   = 1099511627776
	lastCell  = 65535
	lastNum   = 9007199254740992
)

func within(n, least, most int) bool { return least <= n && n <= most }

// mayChain: each is a node, and stands there for the first time.
func mayChain(l []int) bool {
	for i, n := range l {
		if !within(n, 0, nodes-1) || slices.Index(l, n) != i {
			return false
		}
	}
	return true
}

// mayCall: by chapter 7's words.
func mayCall(o point.Op) bool {
	return within(o.Kind, 1, 3) && within(o.At.X, 0, lastCell) && within(o.At.Y, 0, lastCell) &&
		within(len(o.Key), 1, 16) && len(o.Value) <= 32 && (o.Value == "" || o.Kind == 2) &&
		within(o.Client, 0, nodes-1) && within(o.Seq, 1, lastSeq)
}

// The fields of an entry, as the model names them.
const (
	fieldOp = iota
	fieldNode
	fieldEpoch
	fieldBy
	fieldChain
	fields
)

// named: which fields its Kind names; of all others it has nothing.
func named(kind int) []int {
	switch kind {
	case 1:
		return []int{fieldOp}
	case 2, 3:
		return []int{fieldNode}
	case 4, 5:
		return []int{fieldNode, fieldEpoch, fieldBy, fieldChain}
	}
	return nil
}

// empty: is the field zero, or nothing?
func empty(e entry.Entry, field int) bool {
	switch field {
	case fieldOp:
		return e.Op.Kind == 0 && e.Op.At.X == 0 && e.Op.At.Y == 0 && e.Op.Key == "" && e.Op.Value == "" && e.Op.Client == 0 && e.Op.Seq == 0
	case fieldNode:
		return e.Node == 0
	case fieldEpoch:
		return e.Epoch == 0
	case fieldBy:
		return e.By == 0
	}
	return len(e.Chain) == 0
}

// fits: what is asked of the fields that the Kind names.
func fits(e entry.Entry) bool {
	switch e.Kind {
	case 1:
		return mayCall(e.Op)
	case 2, 3:
		return within(e.Node, 0, nodes-1)
	case 4, 5:
		return within(e.Node, 0, nodes-1) && within(e.By, 0, nodes-1) && e.Node != e.By && within(e.Epoch, 1, lastEpoch) &&
			mayChain(e.Chain) && slices.Contains(e.Chain, e.Node) && !slices.Contains(e.Chain, e.By)
	}
	return false
}

// may: by the chapter's words.
func may(e entry.Entry) bool {
	for field := range fields {
		if !slices.Contains(named(e.Kind), field) && !empty(e, field) {
			return false
		}
	}
	return fits(e)
}

// alike: field by field.
func alike(a, b entry.Entry) bool {
	return a.Kind == b.Kind && a.Op.Kind == b.Op.Kind && a.Op.At.X == b.Op.At.X && a.Op.At.Y == b.Op.At.Y &&
		a.Op.Key == b.Op.Key && a.Op.Value == b.Op.Value && a.Op.Client == b.Op.Client && a.Op.Seq == b.Op.Seq &&
		a.Node == b.Node && a.Epoch == b.Epoch && a.By == b.By && slices.Equal(a.Chain, b.Chain)
}

// left: the list without each place where the node stands, from its end on.
func left(l []int, node int) []int {
	l = slices.Clone(l)
	for i := len(l) - 1; i >= 0; i-- {
		if l[i] == node {
			l = slices.Delete(l, i, i+1)
		}
	}
	return l
}

// num: a number as chapter 1 writes it.
func num(n int) []byte {
	var b []byte
	for n > 127 {
		b = append(b, byte(n%128+128))
		n /= 128
	}
	return append(b, byte(n))
}

func text(s string) []byte { return append(num(len(s)), s...) }

// callBytes: a call as chapter 7 writes it, may it be or not.
func callBytes(o point.Op) []byte {
	return slices.Concat(num(o.Kind), num(o.At.X), num(o.At.Y), text(o.Key), text(o.Value), num(o.Client), num(o.Seq))
}

// chainBytes: may the chain be or not.
func chainBytes(l []int) []byte {
	b := num(len(l))
	for _, n := range l {
		b = append(b, num(n)...)
	}
	return b
}

// written: an entry's bytes, may it be or not; of a Kind that is none just that.
func written(e entry.Entry) []byte {
	b := num(e.Kind)
	switch e.Kind {
	case 1:
		return append(b, callBytes(e.Op)...)
	case 2, 3:
		return append(b, num(e.Node)...)
	case 4, 5:
		return slices.Concat(b, num(e.Node), num(e.Epoch), num(e.By), chainBytes(e.Chain))
	}
	return b
}

// reading: bytes that are still to come, and the first fault, behind which none are.
type reading struct {
	rest []byte
	e    api.Errno
}

func (x *reading) fault(e api.Errno) {
	if x.e == api.OK {
		x.rest, x.e = nil, e
	}
}

func (x *reading) num() int {
	n := 0
	for i := range 8 {
		if i == len(x.rest) {
			x.fault(api.ErrEnd)
			return 0
		}
		c := x.rest[i]
		n += int(c%128) << (7 * i)
		if n > lastNum || c == 0 && i > 0 {
			break
		}
		if c < 128 {
			x.rest = x.rest[i+1:]
			return n
		}
	}
	x.fault(api.ErrForm)
	return 0
}

// text: of at most 32 bytes.
func (x *reading) text() string {
	n := x.num()
	if n > 32 {
		x.fault(api.ErrForm)
		return ""
	}
	if n > len(x.rest) {
		x.fault(api.ErrEnd)
		return ""
	}
	s := string(x.rest[:n])
	x.rest = x.rest[n:]
	return s
}

// call: told to be none only when all of it is read (7).
func (x *reading) call() point.Op {
	o := point.Op{Kind: x.num()}
	o.At.X = x.num()
	o.At.Y = x.num()
	o.Key = x.text()
	o.Value = x.text()
	o.Client = x.num()
	o.Seq = x.num()
	return o
}

// chain: its count may not be above the nodes; all else is told when it is read.
func (x *reading) chain() []int {
	var l []int
	n := x.num()
	if n > nodes {
		x.fault(api.ErrForm)
		return nil
	}
	for range n {
		l = append(l, x.num())
	}
	if !mayChain(l) {
		x.fault(api.ErrForm)
	}
	return l
}

func (x *reading) entry() entry.Entry {
	e := entry.Entry{Kind: x.num()}
	switch e.Kind {
	case 1:
		e.Op = x.call()
	case 2, 3:
		e.Node = x.num()
	case 4, 5:
		e.Node = x.num()
		e.Epoch = x.num()
		e.By = x.num()
		e.Chain = x.chain()
	}
	if !may(e) {
		x.fault(api.ErrForm)
	}
	return e
}

// takes: Take of these bytes, and where it leaves the reader, are as the chapter says; what was taken is put as the bytes that it was taken from.
func takes(t *testing.T, b []byte) api.Errno {
	t.Helper()
	x := &reading{rest: b}
	want := x.entry()
	if x.e != api.OK {
		want = entry.Entry{}
	}
	r := wire.Open(b)
	got := entry.Take(r)
	if !alike(got, want) || r.Err() != x.e || r.Left() != len(x.rest) {
		t.Fatalf("Take of %v: %v, Err %d, Left %d, want %v, %d, %d", b, got, r.Err(), r.Left(), want, x.e, len(x.rest))
	}
	if x.e != api.OK {
		return x.e
	}
	if back, e := entry.Put(got); e != api.OK || !bytes.Equal(back, b[:len(b)-len(x.rest)]) {
		t.Fatalf("%v was taken from %v, and put as %v, %d", got, b, back, e)
	}
	return api.OK
}

// takesChain: likewise of a chain.
func takesChain(t *testing.T, b []byte) api.Errno {
	t.Helper()
	x := &reading{rest: b}
	want := x.chain()
	if x.e != api.OK {
		want = nil
	}
	r := wire.Open(b)
	got := entry.TakeChain(r)
	if !slices.Equal(got, want) || r.Err() != x.e || r.Left() != len(x.rest) {
		t.Fatalf("TakeChain of %v: %v, Err %d, Left %d, want %v, %d, %d", b, got, r.Err(), r.Left(), want, x.e, len(x.rest))
	}
	if x.e != api.OK {
		return x.e
	}
	if back, e := entry.PutChain(got); e != api.OK || !bytes.Equal(back, b[:len(b)-len(x.rest)]) {
		t.Fatalf("%v was taken from %v, and put as %v, %d", got, b, back, e)
	}
	return api.OK
}

// holds: Right and Put of the entry are as the chapter says. May it be?
func holds(t *testing.T, e entry.Entry) bool {
	t.Helper()
	want := may(e)
	if got := entry.Right(e); got != want {
		t.Fatalf("Right of %v: %v", e, got)
	}
	b, fault := entry.Put(e)
	switch {
	case want && (fault != api.OK || !bytes.Equal(b, written(e))):
		t.Fatalf("Put of %v: %v, %d, want %v", e, b, fault, written(e))
	case !want && (fault != api.ErrArg || len(b) > 0):
		t.Fatalf("Put of %v, which may not be: %v, %d", e, b, fault)
	}
	return want
}

// holdsChain: likewise of a chain.
func holdsChain(t *testing.T, l []int) bool {
	t.Helper()
	want := mayChain(l)
	if got := entry.RightChain(l); got != want {
		t.Fatalf("RightChain of %v: %v", l, got)
	}
	b, fault := entry.PutChain(l)
	switch {
	case want && (fault != api.OK || !bytes.Equal(b, chainBytes(l))):
		t.Fatalf("PutChain of %v: %v, %d, want %v", l, b, fault, chainBytes(l))
	case !want && (fault != api.ErrArg || len(b) > 0):
		t.Fatalf("PutChain of %v, which may not be: %v, %d", l, b, fault)
	}
	return want
}

// heirs: what the chapter's words say of Heirs.
func heirs(e entry.Entry) (first, second []int) {
	if !may(e) || e.Kind < 4 {
		return nil, nil
	}
	second = []int{e.By}
	for _, n := range e.Chain {
		if n != e.Node {
			second = append(second, n)
		}
	}
	if e.Kind == 4 {
		first = slices.Clone(e.Chain)
	}
	return first, second
}

// hasHeirs: Heirs answers so.
func hasHeirs(t *testing.T, e entry.Entry) {
	t.Helper()
	first, second := heirs(e)
	if a, b := entry.Heirs(e); !slices.Equal(a, first) || !slices.Equal(b, second) {
		t.Fatalf("Heirs of %v: %v and %v, want %v and %v", e, a, b, first, second)
	}
}

func someText(r *rand.Rand, n int) string {
	b := make([]byte, n)
	r.Read(b)
	return string(b)
}

// end: a number from least to most, often one of both.
func end(r *rand.Rand, least, most int) int {
	switch r.Intn(4) {
	case 0:
		return least
	case 1:
		return most
	case 2:
		return least + r.Intn(most-least+1)>>r.Intn(41)
	}
	return least + r.Intn(most-least+1)
}

// drawnCall: one that may be.
func drawnCall(r *rand.Rand) point.Op {
	o := point.Op{Kind: 1 + r.Intn(3), At: api.Point{X: end(r, 0, lastCell), Y: end(r, 0, lastCell)}}
	o.Key = someText(r, end(r, 1, 16))
	if o.Kind == 2 {
		o.Value = someText(r, end(r, 0, 32))
	}
	o.Client = end(r, 0, nodes-1)
	o.Seq = end(r, 1, lastSeq)
	return o
}

// drawnChain: one that may be, of up to so many nodes.
func drawnChain(r *rand.Rand, most int) []int {
	return r.Perm(nodes)[:r.Intn(most+1)]
}

// drawnMove: a Split or Move that may be.
func drawnMove(r *rand.Rand) entry.Entry {
	l := r.Perm(nodes)
	chain := l[1 : 2+r.Intn(nodes-1)]
	return entry.Entry{Kind: 4 + r.Intn(2), Node: chain[r.Intn(len(chain))], Epoch: end(r, 1, lastEpoch), By: l[0], Chain: chain}
}

// drawn: an entry that may be.
func drawn(r *rand.Rand) entry.Entry {
	switch kind := 1 + r.Intn(5); kind {
	case 1:
		return entry.Entry{Kind: kind, Op: drawnCall(r)}
	case 2, 3:
		return entry.Entry{Kind: kind, Node: r.Intn(nodes)}
	}
	return drawnMove(r)
}

// changed: the entry with one of its fields another one, whether it may be then or not.
func changed(r *rand.Rand, e entry.Entry) entry.Entry {
	e.Chain = slices.Clone(e.Chain)
	switch r.Intn(8) {
	case 0:
		e.Kind = r.Intn(8) - 1
	case 1:
		e.Op = drawnCall(r)
	case 2:
		e.Op = []point.Op{{}, {Kind: 1}, {Key: "k"}, {Value: "v"}, {Seq: -1}, {Kind: 4, Key: "k", Seq: 1}}[r.Intn(6)]
	case 3:
		e.Node = r.Intn(nodes+3) - 1
	case 4:
		e.Epoch = []int{-1, 0, 1, 2, lastEpoch, lastEpoch + 1}[r.Intn(6)]
	case 5:
		e.By = r.Intn(nodes+3) - 1
	case 6:
		e.Chain = append(e.Chain, r.Intn(nodes+3)-1)
	default:
		e.Chain = e.Chain[:r.Intn(len(e.Chain)+1)]
	}
	return e
}

// spoilt: some bytes changed, put in, taken out or doubled, or an end cut off.
func spoilt(r *rand.Rand, b []byte) []byte {
	b = bytes.Clone(b)
	at := r.Intn(len(b))
	switch r.Intn(6) {
	case 0:
		return b[:at]
	case 1:
		return slices.Insert(b, at, byte(r.Intn(256))>>r.Intn(8))
	case 2:
		return slices.Delete(b, at, at+1)
	case 3:
		return slices.Insert(b, at, b[at])
	}
	b[at] = byte(r.Intn(256)) >> r.Intn(8)
	return b
}

// long: a text of n bytes.
func long(n int) string { return strings.Repeat("k", n) }
