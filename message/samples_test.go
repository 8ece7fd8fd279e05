package message_test

import (
	"math"
	"slices"
	"strconv"
	"strings"

	"glebe/api"
	"glebe/entry"
	"glebe/message"
	"glebe/point"
	"glebe/seat"
	"glebe/window"
)

// long: a text of n bytes.
func long(n int) string { return strings.Repeat("k", n) }

func call() point.Op {
	return point.Op{Kind: point.Put, At: api.Point{X: 300, Y: 2}, Key: "ab", Value: "v", Client: 7, Seq: 128}
}

func split() entry.Entry {
	return entry.Entry{Kind: entry.Split, Node: 2, Epoch: 65, By: 1, Chain: []int{0, 2}}
}

// manyRecs: so many records, by Compare.
func manyRecs(n int) []point.Rec {
	l := make([]point.Rec, n)
	for i := range l {
		l[i] = point.Rec{At: api.Point{X: i % 7, Y: i / 7}, Key: "k", Ver: 1}
	}
	return l
}

// manyZones: so many, all of the same.
func manyZones(n int) []message.Zone {
	return slices.Repeat([]message.Zone{{Epoch: 1, Holder: 2, Chain: []int{1}}}, n)
}

// bare: a message of that Kind that may be, from 1 to 2, with no more than it must have.
func bare(kind int) message.Msg {
	m := message.Msg{Kind: kind, From: 1, To: 2}
	switch kind {
	case message.Ask:
		m.Op = point.Op{Kind: point.Get, Key: "k", Seq: 1}
	case message.Answer, message.Probe, message.Part:
		m.Seq = 1
	case message.Refuse:
		m.Ans.E = api.ErrHop
	case message.Seat:
		m.Note = bareNote(seat.Have)
	}
	return m
}

// bareNote: likewise a note.
func bareNote(kind int) seat.Note {
	n := seat.Note{Kind: kind, From: 1, To: 2, Epoch: 1}
	switch kind {
	case seat.Sync:
		n.Holder, n.Chain = 1, []int{2}
	case seat.Append:
		n.Pend = entry.Entry{Kind: entry.Add}
	}
	return n
}

// noted: a message of that note.
func noted(n seat.Note) message.Msg {
	return message.Msg{Kind: message.Seat, From: 1, To: 2, Note: n}
}

// full: a message of that Kind that may be, in which all that it can have is unlike zero.
func full(kind int) message.Msg {
	m := message.Msg{Kind: kind, From: 7, To: 4}
	switch kind {
	case message.Beat:
		m.Zones = []message.Zone{{Path: api.Path{Depth: 3, Bits: 5}, Epoch: 300, Holder: 4, Chain: []int{1, 6}}, {Path: api.Path{Depth: 1, Bits: 1}, Epoch: 2, Holder: 3, Chain: []int{7}}}
	case message.Ask:
		m.Op, m.Hops = call(), 9
	case message.Answer:
		m.Seq, m.Ans = 5, point.Ans{E: api.ErrFull, Found: true, Value: "v", Ver: 3}
	case message.Probe:
		m.Seq, m.Op.Client, m.Rect, m.Hops = 5, 6, window.Rect{X: 1, Y: 2, W: 3, H: 65536}, 9
	case message.Part:
		m.Seq, m.Path = 5, api.Path{Depth: 2, Bits: 3}
		m.Recs = []point.Rec{{At: api.Point{X: 8, Y: 1}, Key: "a", Value: "v", Ver: 1}, {At: api.Point{X: 8, Y: 1}, Key: "b", Value: "w", Ver: 2}, {At: api.Point{X: 3, Y: 2}, Key: "a", Value: "x", Ver: 300}}
	case message.Join:
		m.Op.Client, m.At, m.Hops = 6, api.Point{X: 65535, Y: 300}, 9
	case message.Refuse:
		m.Ans.E = api.ErrHop
	case message.Seat:
		m.Note = fullNote(seat.Sync)
	}
	return m
}

// fullNote: likewise a note.
func fullNote(kind int) seat.Note {
	n := seat.Note{Kind: kind, From: 7, To: 4, Path: api.Path{Depth: 3, Bits: 5}, Epoch: 300, Index: 128}
	switch kind {
	case seat.Sync:
		n.Holder, n.Chain, n.Pend, n.State = 7, []int{0, 4, 2}, split(), []byte("state")
	case seat.Append:
		n.Pend = split()
	}
	return n
}

// samples: of each Kind bare and full, with each Kind of a note.
func samples() []message.Msg {
	var l []message.Msg
	for kind := message.Beat; kind <= message.Seat; kind++ {
		l = append(l, bare(kind), full(kind))
	}
	for kind := seat.Sync; kind <= seat.Grant; kind++ {
		m := full(message.Seat)
		m.Note = fullNote(kind)
		l = append(l, m, noted(bareNote(kind)))
	}
	for kind := entry.Call; kind <= entry.Move; kind++ {
		l = append(l, pending(seat.Sync, kind), pending(seat.Append, kind))
	}
	return l
}

// pending: a note of that kind with an entry of that one.
func pending(noteKind, kind int) message.Msg {
	n := bareNote(noteKind)
	switch kind {
	case entry.Call:
		n.Pend = entry.Entry{Kind: kind, Op: call()}
	case entry.Add, entry.Drop:
		n.Pend = entry.Entry{Kind: kind, Node: 5}
	default:
		n.Pend = split()
		n.Pend.Kind = kind
	}
	return noted(n)
}

// stuffed: one that may not be, in which no field is zero, and no list empty.
func stuffed() message.Msg {
	m := message.Msg{Kind: 1, From: 2, To: 3, Hops: 4, Seq: 5, At: api.Point{X: 6, Y: 7}, Op: call(), Path: api.Path{Depth: 8, Bits: 9}}
	m.Ans = full(message.Answer).Ans
	m.Rect = window.Rect{X: 1, Y: 2, W: 3, H: 4}
	m.Recs, m.Zones, m.Note = full(message.Part).Recs, full(message.Beat).Zones, fullNote(seat.Sync)
	m.Note.Pend.Op = call()
	return m
}

// leaf: one of all the numbers, texts and lists that a message has, and a change of it alone.
type leaf struct {
	name   string
	change func(m *message.Msg)
}

func number(name string, of func(m *message.Msg) *int) leaf {
	return leaf{name, func(m *message.Msg) { *of(m)++ }}
}

func word(name string, of func(m *message.Msg) *string) leaf {
	return leaf{name, func(m *message.Msg) { *of(m) += "x" }}
}

func longer(name string, of func(m *message.Msg) *[]int) leaf {
	return leaf{name, func(m *message.Msg) { *of(m) = append(slices.Clip(*of(m)), 0) }}
}

// callLeaves: of a call that the message has somewhere.
func callLeaves(name string, of func(m *message.Msg) *point.Op) []leaf {
	return []leaf{
		number(name+".Kind", func(m *message.Msg) *int { return &of(m).Kind }),
		number(name+".At.X", func(m *message.Msg) *int { return &of(m).At.X }),
		number(name+".At.Y", func(m *message.Msg) *int { return &of(m).At.Y }),
		word(name+".Key", func(m *message.Msg) *string { return &of(m).Key }),
		word(name+".Value", func(m *message.Msg) *string { return &of(m).Value }),
		number(name+".Client", func(m *message.Msg) *int { return &of(m).Client }),
		number(name+".Seq", func(m *message.Msg) *int { return &of(m).Seq }),
	}
}

func noteLeaves() []leaf {
	return slices.Concat([]leaf{
		number("Note.Kind", func(m *message.Msg) *int { return &m.Note.Kind }),
		number("Note.From", func(m *message.Msg) *int { return &m.Note.From }),
		number("Note.To", func(m *message.Msg) *int { return &m.Note.To }),
		number("Note.Path.Depth", func(m *message.Msg) *int { return &m.Note.Path.Depth }),
		number("Note.Path.Bits", func(m *message.Msg) *int { return &m.Note.Path.Bits }),
		number("Note.Epoch", func(m *message.Msg) *int { return &m.Note.Epoch }),
		number("Note.Index", func(m *message.Msg) *int { return &m.Note.Index }),
		number("Note.Holder", func(m *message.Msg) *int { return &m.Note.Holder }),
		longer("Note.Chain", func(m *message.Msg) *[]int { return &m.Note.Chain }),
		number("Note.Pend.Kind", func(m *message.Msg) *int { return &m.Note.Pend.Kind }),
		number("Note.Pend.Node", func(m *message.Msg) *int { return &m.Note.Pend.Node }),
		number("Note.Pend.Epoch", func(m *message.Msg) *int { return &m.Note.Pend.Epoch }),
		number("Note.Pend.By", func(m *message.Msg) *int { return &m.Note.Pend.By }),
		longer("Note.Pend.Chain", func(m *message.Msg) *[]int { return &m.Note.Pend.Chain }),
		{"Note.State", func(m *message.Msg) { m.Note.State = append(slices.Clip(m.Note.State), 0) }},
	}, callLeaves("Note.Pend.Op", func(m *message.Msg) *point.Op { return &m.Note.Pend.Op }))
}

// leaves: all but what stands in lists, each one told by the field of the message ahead of the first point.
func leaves() []leaf {
	return slices.Concat([]leaf{
		number("Kind", func(m *message.Msg) *int { return &m.Kind }),
		number("From", func(m *message.Msg) *int { return &m.From }),
		number("To", func(m *message.Msg) *int { return &m.To }),
		number("Hops", func(m *message.Msg) *int { return &m.Hops }),
		number("Seq", func(m *message.Msg) *int { return &m.Seq }),
		number("At.X", func(m *message.Msg) *int { return &m.At.X }),
		number("At.Y", func(m *message.Msg) *int { return &m.At.Y }),
		{"Ans.E", func(m *message.Msg) { m.Ans.E++ }},
		{"Ans.Found", func(m *message.Msg) { m.Ans.Found = !m.Ans.Found }},
		word("Ans.Value", func(m *message.Msg) *string { return &m.Ans.Value }),
		number("Ans.Ver", func(m *message.Msg) *int { return &m.Ans.Ver }),
		number("Rect.X", func(m *message.Msg) *int { return &m.Rect.X }),
		number("Rect.Y", func(m *message.Msg) *int { return &m.Rect.Y }),
		number("Rect.W", func(m *message.Msg) *int { return &m.Rect.W }),
		number("Rect.H", func(m *message.Msg) *int { return &m.Rect.H }),
		number("Path.Depth", func(m *message.Msg) *int { return &m.Path.Depth }),
		number("Path.Bits", func(m *message.Msg) *int { return &m.Path.Bits }),
		{"Recs", func(m *message.Msg) { m.Recs = append(slices.Clip(m.Recs), point.Rec{}) }},
		{"Zones", func(m *message.Msg) { m.Zones = append(slices.Clip(m.Zones), message.Zone{}) }},
	}, callLeaves("Op", func(m *message.Msg) *point.Op { return &m.Op }), noteLeaves())
}

// rec: change of a record in a list that is no other message's.
func rec(name string, i int, change func(r *point.Rec)) leaf {
	return leaf{"Recs." + strconv.Itoa(i) + "." + name, func(m *message.Msg) {
		m.Recs = slices.Clone(m.Recs)
		change(&m.Recs[i])
	}}
}

func zone(name string, i int, change func(z *message.Zone)) leaf {
	return leaf{"Zones." + strconv.Itoa(i) + "." + name, func(m *message.Msg) {
		m.Zones = slices.Clone(m.Zones)
		change(&m.Zones[i])
	}}
}

// turned: the list with the element i another one.
func turned(l []int, i int) []int {
	l = slices.Clone(l)
	l[i]++
	return l
}

// deepLeaves: what stands in the lists of a message that has two records, two zones with an heir, and a stuffed note; and that they have less, or another order.
func deepLeaves() []leaf {
	l := []leaf{
		{"Note.Chain.0", func(m *message.Msg) { m.Note.Chain = turned(m.Note.Chain, 0) }},
		{"Note.Chain.last", func(m *message.Msg) { m.Note.Chain = turned(m.Note.Chain, len(m.Note.Chain)-1) }},
		{"Note.Chain less", func(m *message.Msg) { m.Note.Chain = m.Note.Chain[1:] }},
		{"Note.Pend.Chain.0", func(m *message.Msg) { m.Note.Pend.Chain = turned(m.Note.Pend.Chain, 0) }},
		{"Note.State.0", func(m *message.Msg) { m.Note.State = append([]byte{'x'}, m.Note.State[1:]...) }},
		{"Note.State less", func(m *message.Msg) { m.Note.State = m.Note.State[1:] }},
		{"Note.State none", func(m *message.Msg) { m.Note.State = nil }},
		{"Recs less", func(m *message.Msg) { m.Recs = m.Recs[1:] }},
		{"Recs none", func(m *message.Msg) { m.Recs = nil }},
		{"Recs turned round", func(m *message.Msg) { m.Recs = slices.Clone(m.Recs); slices.Reverse(m.Recs) }},
		{"Zones less", func(m *message.Msg) { m.Zones = m.Zones[1:] }},
		{"Zones none", func(m *message.Msg) { m.Zones = nil }},
		{"Zones turned round", func(m *message.Msg) { m.Zones = slices.Clone(m.Zones); slices.Reverse(m.Zones) }},
	}
	for i := range 2 {
		l = append(l,
			rec("At.X", i, func(r *point.Rec) { r.At.X++ }),
			rec("At.Y", i, func(r *point.Rec) { r.At.Y++ }),
			rec("Key", i, func(r *point.Rec) { r.Key += "x" }),
			rec("Value", i, func(r *point.Rec) { r.Value += "x" }),
			rec("Ver", i, func(r *point.Rec) { r.Ver++ }),
			zone("Path.Depth", i, func(z *message.Zone) { z.Path.Depth++ }),
			zone("Path.Bits", i, func(z *message.Zone) { z.Path.Bits++ }),
			zone("Epoch", i, func(z *message.Zone) { z.Epoch++ }),
			zone("Holder", i, func(z *message.Zone) { z.Holder++ }),
			zone("Chain.0", i, func(z *message.Zone) { z.Chain = turned(z.Chain, 0) }),
			zone("Chain less", i, func(z *message.Zone) { z.Chain = z.Chain[1:] }),
			zone("Chain more", i, func(z *message.Zone) { z.Chain = append(slices.Clip(z.Chain), 0) }),
		)
	}
	return l
}

// wrongNodes: no node, near and far.
func wrongNodes() []int { return []int{-1, 8, 9, 256, 1 << 32, math.MinInt, math.MaxInt} }

func wrongEpochs() []int {
	return []int{0, -1, lastEpoch + 1, lastNum, math.MinInt, math.MaxInt}
}

// rightPaths: such as may be at all.
func rightPaths() []api.Path {
	return []api.Path{{}, {Depth: 1}, {Depth: 1, Bits: 1}, {Depth: 5, Bits: 31}, {Depth: 31, Bits: 1<<31 - 1}, {Depth: 32}, {Depth: 32, Bits: 1<<32 - 1}}
}

func wrongPaths() []api.Path {
	return []api.Path{
		{Depth: -1}, {Depth: 33}, {Depth: 0, Bits: 1}, {Depth: 0, Bits: -1}, {Depth: 1, Bits: 2}, {Depth: 1, Bits: -1}, {Depth: 5, Bits: 32}, {Depth: 32, Bits: 1 << 32}, {Depth: 64}, {Depth: 65, Bits: 1},
		{Depth: math.MaxInt}, {Depth: math.MinInt}, {Depth: math.MaxInt, Bits: math.MaxInt}, {Depth: 3, Bits: math.MinInt}, {Depth: 3, Bits: math.MaxInt},
	}
}

// wrongChains: such as may not be, whoever holds the zone.
func wrongChains() [][]int {
	return [][]int{{1, 1}, {1, 2, 1}, {8}, {-1}, {1, 8}, {2, -1, 1}, {math.MaxInt}, {math.MinInt, 1}, {0, 1, 2, 3, 4, 5, 6, 7, 0}, slices.Repeat([]int{1}, 5000)}
}
