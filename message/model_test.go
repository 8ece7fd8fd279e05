package message_test

import (
	"bytes"
	"encoding/binary"
	"hash/crc32"
	"reflect"
	"slices"
	"testing"

	"glebe/api"
	"glebe/entry"
	"glebe/message"
	"glebe/point"
	"glebe/seat"
	"glebe/wire"
)

const (
	nodes     = 8
	lastEpoch = 1099511627776
	lastSeq   = 1099511627776
	lastCell  = 65535
	lastSide  = 65536
	lastHop   = 64
	lastNum   = 9007199254740992
	mostZones = 64
	mostRecs  = 512
	mostBytes = 131072
)

// row: what a kind has, by the chapter's table and in its order; nothing of a kind that is none.
func row(kind int) []string {
	switch kind {
	case 1:
		return []string{"zones"}
	case 2:
		return []string{"op", "hops"}
	case 3:
		return []string{"seq", "ans"}
	case 4:
		return []string{"seq", "client", "rect", "hops"}
	case 5:
		return []string{"seq", "path", "recs"}
	case 6:
		return []string{"client", "at", "hops"}
	case 7:
		return []string{"refusal"}
	case 8:
		return []string{"note"}
	}
	return nil
}

// noteRow: likewise of a note, behind its Kind, Path, Epoch and Index.
func noteRow(kind int) []string {
	switch kind {
	case 1:
		return []string{"chain", "perhaps", "state"}
	case 2:
		return []string{"pend"}
	}
	return nil
}

func between(n, least, most int) bool { return least <= n && n <= most }

func nodeIs(n int) bool { return between(n, 0, nodes-1) }

func cellIs(c api.Point) bool { return between(c.X, 0, lastCell) && between(c.Y, 0, lastCell) }

func pathIs(p api.Path) bool {
	return between(p.Depth, 0, 32) && p.Bits >= 0 && p.Bits>>p.Depth == 0
}

func chainIs(l []int) bool {
	for i, n := range l {
		if !nodeIs(n) || slices.Index(l, n) != i {
			return false
		}
	}
	return true
}

func zoneIs(z message.Zone) bool {
	return pathIs(z.Path) && between(z.Epoch, 1, lastEpoch) && nodeIs(z.Holder) && chainIs(append(slices.Clone(z.Chain), z.Holder))
}

func recIs(r point.Rec) bool {
	return cellIs(r.At) && between(len(r.Key), 1, 16) && len(r.Value) <= 32 && between(r.Ver, 1, lastSeq)
}

func opIs(o point.Op) bool {
	return between(o.Kind, 1, 3) && cellIs(o.At) && between(len(o.Key), 1, 16) && len(o.Value) <= 32 &&
		(o.Value == "" || o.Kind == 2) && nodeIs(o.Client) && between(o.Seq, 1, lastSeq)
}

func ansIs(a point.Ans) bool {
	return between(int(a.E), 0, 255) && len(a.Value) <= 32 && between(a.Ver, 0, lastSeq) && (a.Found || a.Value == "" && a.Ver == 0)
}

// before: does a stand ahead of b, by Y, X and Key?
func before(a, b point.Rec) bool {
	if a.At.Y != b.At.Y {
		return a.At.Y < b.At.Y
	}
	if a.At.X != b.At.X {
		return a.At.X < b.At.X
	}
	return a.Key < b.Key
}

func recsAre(l []point.Rec) bool {
	for i, r := range l {
		if !recIs(r) || i > 0 && !before(l[i-1], r) {
			return false
		}
	}
	return len(l) <= mostRecs
}

func entryIs(e entry.Entry) bool {
	bare := entry.Entry{Kind: e.Kind}
	right := false
	switch e.Kind {
	case 1:
		bare.Op = e.Op
		right = opIs(e.Op)
	case 2, 3:
		bare.Node = e.Node
		right = nodeIs(e.Node)
	case 4, 5:
		bare.Node, bare.Epoch, bare.By, bare.Chain = e.Node, e.Epoch, e.By, e.Chain
		right = nodeIs(e.Node) && between(e.Epoch, 1, lastEpoch) && chainIs(append(slices.Clone(e.Chain), e.By)) && slices.Contains(e.Chain, e.Node)
	}
	return right && entryAlike(e, bare)
}

// noteIs: of chapter 12, and from who sends the message to whom it is sent.
func noteIs(n seat.Note, from, to int) bool {
	if n.From != from || n.To != to || !between(n.Kind, 1, 6) || !pathIs(n.Path) || !between(n.Epoch, 1, lastEpoch) || !between(n.Index, 0, lastEpoch) {
		return false
	}
	none := entryAlike(n.Pend, entry.Entry{})
	if n.Kind == 1 {
		return n.Holder == from && chainIs(append(slices.Clone(n.Chain), from)) && slices.Contains(n.Chain, to) && (none || entryIs(n.Pend))
	}
	return n.Holder == 0 && len(n.Chain) == 0 && len(n.State) == 0 && (n.Kind == 2 && entryIs(n.Pend) || n.Kind > 2 && none)
}

// asked: is what the table asks of the field so?
func asked(m message.Msg, field string) bool {
	switch field {
	case "zones":
		return len(m.Zones) <= mostZones && !slices.ContainsFunc(m.Zones, func(z message.Zone) bool { return !zoneIs(z) })
	case "op":
		return opIs(m.Op)
	case "hops":
		return between(m.Hops, 0, lastHop)
	case "seq":
		return between(m.Seq, 1, lastSeq)
	case "ans":
		return ansIs(m.Ans)
	case "client":
		return nodeIs(m.Op.Client)
	case "rect":
		r := m.Rect
		return between(r.X, 0, lastSide) && between(r.Y, 0, lastSide) && between(r.W, 0, lastSide) && between(r.H, 0, lastSide)
	case "path":
		return pathIs(m.Path)
	case "recs":
		return recsAre(m.Recs)
	case "at":
		return cellIs(m.At)
	case "refusal":
		return between(int(m.Ans.E), 1, 255)
	}
	return noteIs(m.Note, m.From, m.To)
}

// without: the message without the field.
func without(m message.Msg, field string) message.Msg {
	none := message.Msg{}
	switch field {
	case "zones":
		m.Zones = nil
	case "op":
		m.Op = none.Op
	case "hops":
		m.Hops = 0
	case "seq":
		m.Seq = 0
	case "ans":
		m.Ans = none.Ans
	case "client":
		m.Op.Client = 0
	case "rect":
		m.Rect = none.Rect
	case "path":
		m.Path = none.Path
	case "recs":
		m.Recs = nil
	case "at":
		m.At = none.At
	case "refusal":
		m.Ans.E = 0
	case "note":
		m.Note = none.Note
	}
	return m
}

// may: by the chapter's words.
func may(m message.Msg) bool {
	if !between(m.Kind, 1, 8) || !nodeIs(m.From) || !nodeIs(m.To) || m.From == m.To {
		return false
	}
	rest := m
	rest.Kind, rest.From, rest.To = 0, 0, 0
	for _, field := range row(m.Kind) {
		if !asked(m, field) {
			return false
		}
		rest = without(rest, field)
	}
	return alike(rest, message.Msg{})
}

// some: the list, nil if there is nothing in it.
func some[T any](l []T) []T {
	if len(l) == 0 {
		return nil
	}
	return l
}

// tidy: a list of nothing is no list.
func tidy(m message.Msg) message.Msg {
	m.Recs, m.Zones = some(m.Recs), some(slices.Clone(m.Zones))
	for i, z := range m.Zones {
		m.Zones[i].Chain = some(z.Chain)
	}
	m.Note.Chain, m.Note.State = some(m.Note.Chain), some(m.Note.State)
	m.Note.Pend.Chain = some(m.Note.Pend.Chain)
	return m
}

func alike(a, b message.Msg) bool { return reflect.DeepEqual(tidy(a), tidy(b)) }

func entryAlike(a, b entry.Entry) bool {
	a.Chain, b.Chain = some(a.Chain), some(b.Chain)
	return reflect.DeepEqual(a, b)
}

// num: a number as chapter 1 writes it; one that is below 0 as one that is too great.
func num(n int) []byte { return binary.AppendUvarint(nil, uint64(n)) }

func nums(l ...int) []byte {
	var b []byte
	for _, n := range l {
		b = append(b, num(n)...)
	}
	return b
}

func text(s string) []byte { return append(num(len(s)), s...) }

func flag(so bool) int {
	if so {
		return 1
	}
	return 0
}

func opBytes(o point.Op) []byte {
	return slices.Concat(nums(o.Kind, o.At.X, o.At.Y), text(o.Key), text(o.Value), nums(o.Client, o.Seq))
}

func ansBytes(a point.Ans) []byte {
	return slices.Concat(nums(int(a.E), flag(a.Found)), text(a.Value), num(a.Ver))
}

func recsBytes(l []point.Rec) []byte {
	b := num(len(l))
	for _, r := range l {
		b = append(b, slices.Concat(nums(r.At.X, r.At.Y), text(r.Key), text(r.Value), num(r.Ver))...)
	}
	return b
}

func chainBytes(l []int) []byte { return append(num(len(l)), nums(l...)...) }

func zonesBytes(l []message.Zone) []byte {
	b := num(len(l))
	for _, z := range l {
		b = append(b, slices.Concat(nums(z.Path.Depth, z.Path.Bits, z.Epoch, z.Holder), chainBytes(z.Chain))...)
	}
	return b
}

func entryBytes(e entry.Entry) []byte {
	switch e.Kind {
	case 1:
		return append(num(e.Kind), opBytes(e.Op)...)
	case 2, 3:
		return nums(e.Kind, e.Node)
	case 4, 5:
		return append(nums(e.Kind, e.Node, e.Epoch, e.By), chainBytes(e.Chain)...)
	}
	return num(e.Kind)
}

func noteBytes(n seat.Note) []byte {
	b := nums(n.Kind, n.Path.Depth, n.Path.Bits, n.Epoch, n.Index)
	for _, field := range noteRow(n.Kind) {
		switch field {
		case "chain":
			b = append(b, chainBytes(n.Chain)...)
		case "perhaps":
			if entryAlike(n.Pend, entry.Entry{}) {
				b = append(b, 0)
			} else {
				b = append(append(b, 1), entryBytes(n.Pend)...)
			}
		case "state":
			b = append(b, text(string(n.State))...)
		case "pend":
			b = append(b, entryBytes(n.Pend)...)
		}
	}
	return b
}

func fieldBytes(m message.Msg, field string) []byte {
	switch field {
	case "zones":
		return zonesBytes(m.Zones)
	case "op":
		return opBytes(m.Op)
	case "hops":
		return num(m.Hops)
	case "seq":
		return num(m.Seq)
	case "ans", "refusal":
		return ansBytes(m.Ans)
	case "client":
		return num(m.Op.Client)
	case "rect":
		return nums(m.Rect.X, m.Rect.Y, m.Rect.W, m.Rect.H)
	case "path":
		return nums(m.Path.Depth, m.Path.Bits)
	case "recs":
		return recsBytes(m.Recs)
	case "at":
		return nums(m.At.X, m.At.Y)
	}
	return noteBytes(m.Note)
}

// content: what stands in the frame, may the message be or not.
func content(m message.Msg) []byte {
	b := nums(m.From, m.To)
	for _, field := range row(m.Kind) {
		b = append(b, fieldBytes(m, field)...)
	}
	return b
}

// framed: a frame (1) of that content, may it be too long or not.
func framed(kind int, content []byte) []byte {
	n := len(content)
	b := append([]byte{3, byte(kind), byte(n), byte(n >> 8), byte(n >> 16)}, content...)
	return binary.LittleEndian.AppendUint32(b, crc32.ChecksumIEEE(b))
}

// reading: bytes that are still to come, till something is wrong with them.
type reading struct {
	rest  []byte
	wrong bool
}

func (x *reading) fault() { x.rest, x.wrong = nil, true }

func (x *reading) num() int {
	n, size := binary.Uvarint(x.rest)
	if size <= 0 || n > lastNum || !bytes.Equal(num(int(n)), x.rest[:size]) {
		x.fault()
		return 0
	}
	x.rest = x.rest[size:]
	return int(n)
}

// upto: a number, none above most.
func (x *reading) upto(most int) int {
	n := x.num()
	if n > most {
		x.fault()
		return 0
	}
	return n
}

func (x *reading) text() string {
	n := x.num()
	if n > len(x.rest) {
		x.fault()
		return ""
	}
	s := string(x.rest[:n])
	x.rest = x.rest[n:]
	return s
}

func (x *reading) cell() api.Point {
	c := api.Point{X: x.num()}
	c.Y = x.num()
	return c
}

func (x *reading) path() api.Path {
	p := api.Path{Depth: x.num()}
	p.Bits = x.num()
	return p
}

func (x *reading) op() point.Op {
	o := point.Op{Kind: x.num()}
	o.At = x.cell()
	o.Key = x.text()
	o.Value = x.text()
	o.Client = x.num()
	o.Seq = x.num()
	return o
}

func (x *reading) ans() point.Ans {
	a := point.Ans{E: api.Errno(x.num())}
	a.Found = x.upto(1) == 1
	a.Value = x.text()
	a.Ver = x.num()
	return a
}

func (x *reading) recs() []point.Rec {
	l := make([]point.Rec, x.upto(mostRecs))
	for i := range l {
		l[i].At = x.cell()
		l[i].Key = x.text()
		l[i].Value = x.text()
		l[i].Ver = x.num()
	}
	return l
}

func (x *reading) chain() []int {
	l := make([]int, x.upto(nodes))
	for i := range l {
		l[i] = x.num()
	}
	return l
}

func (x *reading) zones() []message.Zone {
	l := make([]message.Zone, x.upto(mostZones))
	for i := range l {
		l[i].Path = x.path()
		l[i].Epoch = x.num()
		l[i].Holder = x.num()
		l[i].Chain = x.chain()
	}
	return l
}

// entry: there may be none behind a 1.
func (x *reading) entry() entry.Entry {
	e := entry.Entry{Kind: x.num()}
	switch e.Kind {
	case 1:
		e.Op = x.op()
	case 2, 3:
		e.Node = x.num()
	case 4, 5:
		e.Node = x.num()
		e.Epoch = x.num()
		e.By = x.num()
		e.Chain = x.chain()
	}
	if !entryIs(e) {
		x.fault()
	}
	return e
}

func (x *reading) note(from, to int) seat.Note {
	n := seat.Note{Kind: x.num(), From: from, To: to}
	n.Path = x.path()
	n.Epoch = x.num()
	n.Index = x.num()
	for _, field := range noteRow(n.Kind) {
		switch field {
		case "chain":
			n.Chain, n.Holder = x.chain(), from
		case "perhaps":
			if x.upto(1) == 1 {
				n.Pend = x.entry()
			}
		case "state":
			n.State = []byte(x.text())
		case "pend":
			n.Pend = x.entry()
		}
	}
	return n
}

func (x *reading) field(m *message.Msg, field string) {
	switch field {
	case "zones":
		m.Zones = x.zones()
	case "op":
		m.Op = x.op()
	case "hops":
		m.Hops = x.num()
	case "seq":
		m.Seq = x.num()
	case "ans":
		m.Ans = x.ans()
	case "refusal":
		m.Ans = x.ans()
	case "client":
		m.Op.Client = x.num()
	case "rect":
		m.Rect.X, m.Rect.Y = x.num(), x.num()
		m.Rect.W, m.Rect.H = x.num(), x.num()
	case "path":
		m.Path = x.path()
	case "recs":
		m.Recs = x.recs()
	case "at":
		m.At = x.cell()
	case "note":
		m.Note = x.note(m.From, m.To)
	}
}

// told: what Get answers, by the chapter's words.
func told(b []byte) (message.Msg, api.Errno) {
	kind, content, e := wire.Unframe(b)
	if e != api.OK {
		return message.Msg{}, e
	}
	x := &reading{rest: content}
	m := message.Msg{Kind: kind, From: x.num(), To: x.num()}
	for _, field := range row(kind) {
		x.field(&m, field)
	}
	if x.wrong || len(x.rest) > 0 || !may(m) {
		return message.Msg{}, api.ErrForm
	}
	return m, api.OK
}

// gets: Get of these bytes is as the chapter says; a message that it answers is put as they are.
func gets(t *testing.T, b []byte) api.Errno {
	t.Helper()
	want, wantE := told(b)
	got, e := message.Get(b)
	if e != wantE || !alike(got, want) {
		t.Fatalf("Get of %v: %+v, %d, want %+v, %d", b, got, e, want, wantE)
	}
	if e != api.OK {
		if !reflect.DeepEqual(got, message.Msg{}) {
			t.Fatalf("Get of %v: %+v beside %d", b, got, e)
		}
		return e
	}
	if back, e := message.Put(got); e != api.OK || !bytes.Equal(back, b) {
		t.Fatalf("%+v was got of %v, and put as %v, %d", got, b, back, e)
	}
	return api.OK
}

// puts: Put of the message ends so; with OK as the bytes that the chapter says.
func puts(t *testing.T, m message.Msg, want api.Errno) {
	t.Helper()
	b, e := message.Put(m)
	if e != want || e != api.OK && len(b) > 0 {
		t.Fatalf("Put of %+v: %d bytes, %d, want %d", m, len(b), e, want)
	}
	if e == api.OK && !bytes.Equal(b, framed(m.Kind, content(m))) {
		t.Fatalf("Put of %+v: %v, want %v", m, b, framed(m.Kind, content(m)))
	}
}

// holds: Right, Put, and Get of its bytes are as the chapter says. May the message be?
func holds(t *testing.T, m message.Msg) bool {
	t.Helper()
	right := may(m)
	if message.Right(m) != right {
		t.Fatalf("Right of %+v: %v", m, !right)
	}
	long := len(content(m)) > mostBytes
	switch {
	case !right:
		puts(t, m, api.ErrArg)
	case long:
		puts(t, m, api.ErrSize)
	default:
		puts(t, m, api.OK)
		if back, e := message.Get(framed(m.Kind, content(m))); e != api.OK || !alike(back, m) || !message.Same(back, m) {
			t.Fatalf("%+v, put and got, is %+v, %d", m, back, e)
		}
	}
	if !long {
		gets(t, framed(m.Kind, content(m)))
	}
	return right
}
