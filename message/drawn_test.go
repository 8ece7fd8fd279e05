package message_test

import (
	"bytes"
	"math"
	"math/rand"
	"slices"

	"glebe/api"
	"glebe/entry"
	"glebe/message"
	"glebe/point"
	"glebe/seat"
	"glebe/window"
)

// end: a number from least to most, often one of both.
func end(r *rand.Rand, least, most int) int {
	switch r.Intn(4) {
	case 0:
		return least
	case 1:
		return most
	case 2:
		return least + r.Intn(most-least+1)>>r.Intn(41)
	}
	return least + r.Intn(most-least+1)
}

func someText(r *rand.Rand, n int) string {
	b := make([]byte, n)
	r.Read(b)
	return string(b)
}

func drawnCell(r *rand.Rand) api.Point {
	return api.Point{X: end(r, 0, lastCell), Y: end(r, 0, lastCell)}
}

func drawnPath(r *rand.Rand) api.Path {
	depth := end(r, 0, 32)
	return api.Path{Depth: depth, Bits: end(r, 0, 1<<depth-1)}
}

func drawnOp(r *rand.Rand) point.Op {
	o := point.Op{Kind: 1 + r.Intn(3), At: drawnCell(r), Key: someText(r, end(r, 1, 16)), Client: end(r, 0, nodes-1), Seq: end(r, 1, lastSeq)}
	if o.Kind == point.Put {
		o.Value = someText(r, end(r, 0, 32))
	}
	return o
}

func drawnAns(r *rand.Rand) point.Ans {
	a := point.Ans{E: api.Errno(end(r, 0, 255))}
	if r.Intn(2) == 0 {
		a.Found, a.Value, a.Ver = true, someText(r, end(r, 0, 32)), end(r, 0, lastSeq)
	}
	return a
}

// drawnRecs: of few rows, columns and Keys, so that many are told apart by just one of them.
func drawnRecs(r *rand.Rand) []point.Rec {
	least := drawnCell(r)
	l := make([]point.Rec, end(r, 0, 40))
	for i := range l {
		at := api.Point{X: min(least.X+r.Intn(4), lastCell), Y: min(least.Y+r.Intn(4), lastCell)}
		l[i] = point.Rec{At: at, Key: long(r.Intn(16)) + string(rune('a'+r.Intn(3))), Value: someText(r, end(r, 0, 32)), Ver: end(r, 1, lastSeq)}
	}
	slices.SortFunc(l, point.Compare)
	return slices.CompactFunc(l, func(a, b point.Rec) bool { return point.Compare(a, b) == 0 })
}

func drawnZones(r *rand.Rand) []message.Zone {
	l := make([]message.Zone, end(r, 0, mostZones)>>r.Intn(7))
	for i := range l {
		those := r.Perm(nodes)
		l[i] = message.Zone{Path: drawnPath(r), Epoch: end(r, 1, lastEpoch), Holder: those[0], Chain: those[1 : 1+r.Intn(nodes)]}
	}
	return l
}

func drawnEntry(r *rand.Rand) entry.Entry {
	switch kind := 1 + r.Intn(5); kind {
	case entry.Call:
		return entry.Entry{Kind: kind, Op: drawnOp(r)}
	case entry.Add, entry.Drop:
		return entry.Entry{Kind: kind, Node: r.Intn(nodes)}
	default:
		those := r.Perm(nodes)
		chain := those[1 : 2+r.Intn(nodes-1)]
		return entry.Entry{Kind: kind, Node: chain[r.Intn(len(chain))], Epoch: end(r, 1, lastEpoch), By: those[0], Chain: chain}
	}
}

func drawnNote(r *rand.Rand, from, to int) seat.Note {
	n := seat.Note{Kind: 1 + r.Intn(6), From: from, To: to, Path: drawnPath(r), Epoch: end(r, 1, lastEpoch), Index: end(r, 0, lastEpoch)}
	if r.Intn(3) == 0 {
		n.Kind = seat.Sync
	}
	switch n.Kind {
	case seat.Sync:
		n.Holder = from
		n.Chain = slices.DeleteFunc(r.Perm(nodes), func(node int) bool { return node == from || node != to && r.Intn(2) == 0 })
		n.State = []byte(someText(r, end(r, 0, 200)))
		if r.Intn(2) == 0 {
			n.Pend = drawnEntry(r)
		}
	case seat.Append:
		n.Pend = drawnEntry(r)
	}
	return n
}

// drawn: a message that may be.
func drawn(r *rand.Rand) message.Msg {
	those := r.Perm(nodes)
	m := message.Msg{Kind: 1 + r.Intn(8), From: those[0], To: those[1]}
	for _, field := range row(m.Kind) {
		switch field {
		case "zones":
			m.Zones = drawnZones(r)
		case "op":
			m.Op = drawnOp(r)
		case "hops":
			m.Hops = end(r, 0, lastHop)
		case "seq":
			m.Seq = end(r, 1, lastSeq)
		case "ans":
			m.Ans = drawnAns(r)
		case "client":
			m.Op.Client = r.Intn(nodes)
		case "rect":
			m.Rect = window.Rect{X: end(r, 0, lastSide), Y: end(r, 0, lastSide), W: end(r, 0, lastSide), H: end(r, 0, lastSide)}
		case "path":
			m.Path = drawnPath(r)
		case "recs":
			m.Recs = drawnRecs(r)
		case "at":
			m.At = drawnCell(r)
		case "refusal":
			m.Ans.E = api.Errno(end(r, 1, 255))
		case "note":
			m.Note = drawnNote(r, m.From, m.To)
		}
	}
	return m
}

// someNumber: huge, negative, or near to such as may be.
func someNumber(r *rand.Rand) int {
	l := []int{math.MinInt, -1 << 32, -1, 0, 0, 0, 1, 1, 2, 2, 3, 4, 5, 6, 7, 8, 9, 63, 64, 65, 255, 256, 65535, 65536, 65537, 1 << 32, lastEpoch, lastEpoch + 1, lastNum, lastNum + 1, math.MaxInt}
	return l[r.Intn(len(l))]
}

// places: all numbers of a message that stand in no list.
func places(m *message.Msg) []*int {
	return []*int{
		&m.Kind, &m.From, &m.To, &m.Hops, &m.Seq, &m.At.X, &m.At.Y, &m.Op.Kind, &m.Op.At.X, &m.Op.At.Y, &m.Op.Client, &m.Op.Seq, (*int)(&m.Ans.E), &m.Ans.Ver,
		&m.Rect.X, &m.Rect.Y, &m.Rect.W, &m.Rect.H, &m.Path.Depth, &m.Path.Bits,
		&m.Note.Kind, &m.Note.From, &m.Note.To, &m.Note.Path.Depth, &m.Note.Path.Bits, &m.Note.Epoch, &m.Note.Index, &m.Note.Holder,
		&m.Note.Pend.Kind, &m.Note.Pend.Node, &m.Note.Pend.Epoch, &m.Note.Pend.By,
	}
}

// changed: the message with something in it another one, whether it may be then or not. Its lists are its own.
func changed(r *rand.Rand, m message.Msg) message.Msg {
	m.Recs, m.Zones = slices.Clone(m.Recs), slices.Clone(m.Zones)
	m.Note.Chain, m.Note.Pend.Chain = slices.Clone(m.Note.Chain), slices.Clone(m.Note.Pend.Chain)
	switch r.Intn(8) {
	case 0:
		*places(&m)[r.Intn(3)] = r.Intn(11) - 1
	case 1:
		l := places(&m)
		*l[r.Intn(len(l))] = someNumber(r)
	case 2:
		l := leaves()
		l[r.Intn(len(l))].change(&m)
	case 3:
		field := row(1 + r.Intn(8))
		m = with(m, drawn(r), field[r.Intn(len(field))])
	case 4:
		change(r, m.Recs, func(x *point.Rec) {
			x.At.X, x.Ver = someNumber(r), max(x.Ver, 1)
		})
	case 5:
		change(r, m.Zones, func(z *message.Zone) {
			z.Holder, z.Epoch = someNumber(r), max(someNumber(r), 1)
		})
	case 6:
		m.Zones = append(m.Zones, drawnZones(r)...)
	default:
		change(r, m.Note.Chain, func(n *int) { *n = someNumber(r) })
	}
	return m
}

// change: one of the list's.
func change[T any](r *rand.Rand, l []T, how func(*T)) {
	if len(l) > 0 {
		how(&l[r.Intn(len(l))])
	}
}

// spoilt: some bytes changed, put in, taken out or doubled, or an end cut off.
func spoilt(r *rand.Rand, b []byte) []byte {
	if len(b) == 0 {
		return []byte{byte(r.Intn(256))}
	}
	b = bytes.Clone(b)
	at := r.Intn(len(b))
	switch r.Intn(6) {
	case 0:
		return b[:at]
	case 1:
		return slices.Insert(b, at, byte(r.Intn(256))>>r.Intn(8))
	case 2:
		return slices.Delete(b, at, at+1)
	case 3:
		return slices.Insert(b, at, b[at])
	}
	b[at] = byte(r.Intn(256)) >> r.Intn(8)
	return b
}
