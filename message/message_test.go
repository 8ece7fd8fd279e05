package message_test

import (
	"bytes"
	"math"
	"slices"
	"strings"
	"testing"

	"glebe/api"
	"glebe/entry"
	"glebe/message"
	"glebe/point"
	"glebe/seat"
	"glebe/window"
)

// is: the message may be, or may not.
func is(t *testing.T, m message.Msg, want bool) {
	t.Helper()
	if holds(t, m) != want {
		t.Errorf("may %+v be? want %v", m, want)
	}
}

// bounds: the number may be from least to most, and no other one.
func bounds(t *testing.T, m message.Msg, least, most int, set func(m *message.Msg, n int)) {
	t.Helper()
	for _, n := range []int{least, least + 1, (least + most) / 2, most - 1, most} {
		set(&m, n)
		is(t, m, true)
	}
	for _, n := range []int{least - 1, most + 1, -1, -most, most << 20, lastNum, lastNum + 1, math.MinInt, math.MaxInt} {
		set(&m, n)
		is(t, m, false)
	}
}

func zoneMay(t *testing.T, z message.Zone, want bool) {
	t.Helper()
	if message.RightZone(z) != want || zoneIs(z) != want {
		t.Errorf("RightZone of %+v is %v, to the model %v, want %v", z, message.RightZone(z), zoneIs(z), want)
	}
	is(t, message.Msg{Kind: message.Beat, From: 1, To: 2, Zones: []message.Zone{z}}, want)
	m := full(message.Beat)
	m.Zones = append(m.Zones, z)
	is(t, m, want)
}

// The constants have the chapter's numbers.
func TestConstants(t *testing.T) {
	got := []int{message.Beat, message.Ask, message.Answer, message.Probe, message.Part, message.Join, message.Refuse, message.Seat, message.MaxHops}
	if want := []int{1, 2, 3, 4, 5, 6, 7, 8, 64}; !slices.Equal(got, want) {
		t.Errorf("%v, want %v", got, want)
	}
}

// P1302: RightZone of paths, epochs and holders.
func TestRightZone(t *testing.T) {
	for _, p := range rightPaths() {
		zoneMay(t, message.Zone{Path: p, Epoch: 1}, true)
	}
	for _, p := range wrongPaths() {
		zoneMay(t, message.Zone{Path: p, Epoch: 1}, false)
	}
	for _, epoch := range []int{1, 2, lastEpoch - 1, lastEpoch} {
		zoneMay(t, message.Zone{Epoch: epoch, Holder: 3, Chain: []int{1}}, true)
	}
	for _, epoch := range wrongEpochs() {
		zoneMay(t, message.Zone{Epoch: epoch, Holder: 3, Chain: []int{1}}, false)
	}
	for holder := range nodes {
		zoneMay(t, message.Zone{Epoch: 1, Holder: holder}, true)
	}
	for _, holder := range wrongNodes() {
		zoneMay(t, message.Zone{Epoch: 1, Holder: holder}, false)
		zoneMay(t, message.Zone{Epoch: 1, Holder: holder, Chain: []int{1}}, false)
	}
	zoneMay(t, message.Zone{}, false)
}

// P1302: RightZone of chains: none has the Holder.
func TestRightZoneChains(t *testing.T) {
	for _, l := range [][]int{nil, {}, {0}, {7}, {1, 2}, {2, 1}, {7, 6, 5, 4, 2, 1, 0}} {
		zoneMay(t, message.Zone{Epoch: 1, Holder: 3, Chain: l}, true)
		for i := range len(l) + 1 {
			zoneMay(t, message.Zone{Epoch: 1, Holder: 3, Chain: slices.Insert(slices.Clone(l), i, 3)}, false)
		}
	}
	for _, l := range wrongChains() {
		zoneMay(t, message.Zone{Epoch: 1, Holder: 3, Chain: l}, false)
	}
	for holder := range nodes {
		zoneMay(t, message.Zone{Epoch: 1, Holder: holder, Chain: []int{holder}}, false)
	}
}

// P1302: each Kind, with no more than it must have and with all that it can have.
func TestSamplesMayBe(t *testing.T) {
	for _, m := range samples() {
		is(t, m, true)
	}
	is(t, stuffed(), false)
	is(t, message.Msg{}, false)
}

// P1302: a Kind that is none, with what each of the Kinds has.
func TestKindsThatAreNone(t *testing.T) {
	for _, kind := range []int{0, -1, 9, 10, 255, 256, 257, 258, 264, 1<<32 + 1, 1<<8 + message.Seat, math.MinInt, math.MaxInt} {
		for _, m := range samples() {
			m.Kind = kind
			is(t, m, false)
		}
		is(t, message.Msg{Kind: kind, From: 1, To: 2}, false)
	}
}

// P1302: one Kind's fields with another Kind.
func TestKindsOfOthers(t *testing.T) {
	for kind := message.Beat; kind <= message.Seat; kind++ {
		for other := message.Beat; other <= message.Seat; other++ {
			m := full(kind)
			m.Kind = other
			is(t, m, other == kind)
		}
	}
}

// P1302: From and To: every pair of nodes, the same, and no nodes.
func TestFromAndTo(t *testing.T) {
	all := append(wrongNodes(), 0, 1, 2, 3, 4, 5, 6, 7)
	for kind := message.Beat; kind <= message.Seat; kind++ {
		for _, from := range all {
			for _, to := range all {
				m := bare(kind)
				m.From, m.To = from, to
				if kind == message.Seat {
					m.Note.From, m.Note.To = from, to
				}
				is(t, m, nodeIs(from) && nodeIs(to) && from != to)
			}
		}
	}
}

// names: does the table name that leaf for the Kind?
func names(kind int, name string) bool {
	field, _, _ := strings.Cut(name, ".")
	switch field {
	case "Kind", "From", "To":
		return true
	case "Op":
		return kind == message.Ask || (kind == message.Probe || kind == message.Join) && name == "Op.Client"
	case "Ans":
		return kind == message.Answer || kind == message.Refuse && name == "Ans.E"
	}
	return slices.Contains(map[string][]int{
		"Hops":  {message.Ask, message.Probe, message.Join},
		"Seq":   {message.Answer, message.Probe, message.Part},
		"At":    {message.Join},
		"Rect":  {message.Probe},
		"Path":  {message.Part},
		"Recs":  {message.Part},
		"Zones": {message.Beat},
		"Note":  {message.Seat},
	}[field], kind)
}

// P1302: each field that the Kind does not name, and that is not zero.
func TestFieldsThatAreNotNamed(t *testing.T) {
	seen := 0
	for kind := message.Beat; kind <= message.Seat; kind++ {
		for _, m := range []message.Msg{bare(kind), full(kind)} {
			for _, x := range leaves() {
				if names(kind, x.name) {
					continue
				}
				seen++
				c := m
				x.change(&c)
				is(t, c, false)
			}
		}
	}
	if seen < 600 {
		t.Errorf("%d were changed", seen)
	}
}

// P1302: likewise with negative numbers, and with lists and texts of what may be.
func TestMoreFieldsThatAreNotNamed(t *testing.T) {
	for kind := message.Beat; kind <= message.Seat; kind++ {
		for other := message.Beat; other <= message.Seat; other++ {
			for _, field := range row(other) {
				if slices.Contains(row(kind), field) || field == "client" && slices.Contains(row(kind), "op") || field == "refusal" && slices.Contains(row(kind), "ans") {
					continue
				}
				is(t, with(full(kind), full(other), field), false)
			}
		}
		for _, change := range []func(m *message.Msg){
			func(m *message.Msg) { m.Hops = -1 },
			func(m *message.Msg) { m.Seq = math.MinInt },
			func(m *message.Msg) { m.At.X = math.MinInt },
			func(m *message.Msg) { m.Rect.H = -1 },
			func(m *message.Msg) { m.Path.Depth = -1 },
			func(m *message.Msg) { m.Ans.Ver = -1 },
		} {
			m := bare(kind)
			change(&m)
			is(t, m, false)
		}
	}
}

// with: the message with that field of another one.
func with(m, other message.Msg, field string) message.Msg {
	switch field {
	case "zones":
		m.Zones = other.Zones
	case "op", "client":
		m.Op = other.Op
	case "hops":
		m.Hops = other.Hops
	case "seq":
		m.Seq = other.Seq
	case "ans", "refusal":
		m.Ans = other.Ans
	case "rect":
		m.Rect = other.Rect
	case "path":
		m.Path = other.Path
	case "recs":
		m.Recs = other.Recs
	case "at":
		m.At = other.At
	case "note":
		m.Note = other.Note
	}
	return m
}

// P1302: lists of nothing that the Kind does not name are no lists.
func TestListsOfNothing(t *testing.T) {
	for kind := message.Beat; kind <= message.Seat; kind++ {
		m := bare(kind)
		m.Recs, m.Zones, m.Note.Chain, m.Note.State, m.Note.Pend.Chain = []point.Rec{}, []message.Zone{}, []int{}, []byte{}, []int{}
		is(t, m, true)
		if !message.Same(m, bare(kind)) || !message.Same(bare(kind), m) {
			t.Errorf("%+v is not the same as %+v", m, bare(kind))
		}
	}
}

// P1302: Hops at its bounds and beyond.
func TestHops(t *testing.T) {
	for _, kind := range []int{message.Ask, message.Probe, message.Join} {
		bounds(t, bare(kind), 0, lastHop, func(m *message.Msg, n int) { m.Hops = n })
		bounds(t, full(kind), 0, lastHop, func(m *message.Msg, n int) { m.Hops = n })
	}
}

// P1302: Seq at its bounds and beyond.
func TestSeq(t *testing.T) {
	for _, kind := range []int{message.Answer, message.Probe, message.Part} {
		bounds(t, bare(kind), 1, lastSeq, func(m *message.Msg, n int) { m.Seq = n })
		bounds(t, full(kind), 1, lastSeq, func(m *message.Msg, n int) { m.Seq = n })
	}
	bounds(t, bare(message.Ask), 1, lastSeq, func(m *message.Msg, n int) { m.Op.Seq = n })
}

// P1302: the client, that may be who sends the message, or to whom it is sent.
func TestClients(t *testing.T) {
	for _, kind := range []int{message.Ask, message.Probe, message.Join} {
		bounds(t, bare(kind), 0, nodes-1, func(m *message.Msg, n int) { m.Op.Client = n })
		for client := range nodes {
			m := full(kind)
			m.Op.Client = client
			is(t, m, true)
		}
	}
}

// P1302: a Rect's numbers, that need not fit one torus, and a point's.
func TestRectsAndPoints(t *testing.T) {
	for _, m := range []message.Msg{bare(message.Probe), full(message.Probe)} {
		bounds(t, m, 0, lastSide, func(m *message.Msg, n int) { m.Rect.X = n })
		bounds(t, m, 0, lastSide, func(m *message.Msg, n int) { m.Rect.Y = n })
		bounds(t, m, 0, lastSide, func(m *message.Msg, n int) { m.Rect.W = n })
		bounds(t, m, 0, lastSide, func(m *message.Msg, n int) { m.Rect.H = n })
		m.Rect = window.Rect{X: lastSide, Y: lastSide, W: lastSide, H: lastSide}
		is(t, m, true)
	}
	for _, m := range []message.Msg{bare(message.Join), full(message.Join)} {
		bounds(t, m, 0, lastCell, func(m *message.Msg, n int) { m.At.X = n })
		bounds(t, m, 0, lastCell, func(m *message.Msg, n int) { m.At.Y = n })
	}
	bounds(t, bare(message.Ask), 0, lastCell, func(m *message.Msg, n int) { m.Op.At.X = n })
	bounds(t, bare(message.Ask), 0, lastCell, func(m *message.Msg, n int) { m.Op.At.Y = n })
}

// P1302: calls that may not be.
func TestAsks(t *testing.T) {
	for kind := point.Get; kind <= point.Del; kind++ {
		m := bare(message.Ask)
		m.Op.Kind = kind
		is(t, m, true)
		m.Op.Value = "v"
		is(t, m, kind == point.Put)
	}
	for _, x := range []struct {
		change func(o *point.Op)
		want   bool
	}{
		{func(o *point.Op) { o.Kind = 0 }, false},
		{func(o *point.Op) { o.Kind = 4 }, false},
		{func(o *point.Op) { o.Kind = math.MinInt }, false},
		{func(o *point.Op) { o.Key = "" }, false},
		{func(o *point.Op) { o.Key = long(16) }, true},
		{func(o *point.Op) { o.Key = long(17) }, false},
		{func(o *point.Op) { o.Key = long(1 << 20) }, false},
		{func(o *point.Op) { o.Key = "\x00\xff" }, true},
		{func(o *point.Op) { o.Value = "" }, true},
		{func(o *point.Op) { o.Value = long(32) }, true},
		{func(o *point.Op) { o.Value = long(33) }, false},
		{func(o *point.Op) { o.Value = long(1 << 20) }, false},
		{func(o *point.Op) { *o = point.Op{} }, false},
	} {
		m := full(message.Ask)
		x.change(&m.Op)
		is(t, m, x.want)
	}
}

// P1302: answers that may be and may not, and what a Refuse has.
func TestAnswers(t *testing.T) {
	for _, x := range []struct {
		a    point.Ans
		want bool
	}{
		{point.Ans{}, true},
		{point.Ans{E: 255}, true},
		{point.Ans{E: 256}, false},
		{point.Ans{E: -1}, false},
		{point.Ans{E: math.MaxInt}, false},
		{point.Ans{Found: true}, true},
		{point.Ans{Found: true, Value: long(32), Ver: lastSeq}, true},
		{point.Ans{Found: true, Value: long(33)}, false},
		{point.Ans{Found: true, Ver: lastSeq + 1}, false},
		{point.Ans{Found: true, Ver: -1}, false},
		{point.Ans{Value: "v"}, false},
		{point.Ans{Ver: 1}, false},
	} {
		m := bare(message.Answer)
		m.Ans = x.a
		is(t, m, x.want)
	}
	bounds(t, bare(message.Refuse), 1, 255, func(m *message.Msg, n int) { m.Ans.E = api.Errno(n) })
	for _, a := range []point.Ans{{}, {Found: true}, {E: 30, Found: true}, {E: 30, Found: true, Value: "v"}, {E: 30, Found: true, Ver: 1}, {E: 30, Value: "v"}, {E: 30, Ver: 1}} {
		m := bare(message.Refuse)
		m.Ans = a
		is(t, m, false)
	}
}

// P1302: MaxZones zones and one more; they may be the same.
func TestHowManyZones(t *testing.T) {
	for _, n := range []int{0, 1, 2, 63, 64, 65, 66, 127, 128, 1 << 16} {
		m := bare(message.Beat)
		m.Zones = manyZones(n)
		is(t, m, n <= mostZones)
	}
}

// P1302: a zone that may not be, at each place.
func TestWrongZones(t *testing.T) {
	for i := range mostZones {
		for _, z := range []message.Zone{{}, {Epoch: 1, Chain: []int{0}}, {Epoch: 1, Path: api.Path{Depth: 33}}, {Epoch: 1, Holder: 8}, {Epoch: lastEpoch + 1}} {
			m := bare(message.Beat)
			m.Zones = manyZones(mostZones)
			m.Zones[i] = z
			is(t, m, false)
		}
	}
}

// P1302: as many records as may be and one more.
func TestHowManyRecs(t *testing.T) {
	for _, n := range []int{0, 1, 2, 64, 65, 511, 512, 513, 514, 1024, 1 << 16} {
		m := bare(message.Part)
		m.Recs = manyRecs(n)
		is(t, m, n <= mostRecs)
	}
}

// P1302: records stand by Compare, each once: two of the same place, and two that stand the wrong way round, at each place.
func TestOrderOfRecs(t *testing.T) {
	at := func(x, y int, key string) point.Rec {
		return point.Rec{At: api.Point{X: x, Y: y}, Key: key, Ver: 1}
	}
	sorted := []point.Rec{at(0, 0, "k"), at(9, 0, "a"), at(9, 0, "aa"), at(9, 0, "b"), at(2, 1, "z"), at(3, 1, "a"), at(0, 7, "a")}
	m := bare(message.Part)
	m.Recs = sorted
	is(t, m, true)
	for i := range sorted {
		twice := sorted[i]
		twice.Value, twice.Ver = "another one", 2
		m.Recs = slices.Insert(slices.Clone(sorted), i, twice)
		is(t, m, false)
		m.Recs = slices.Insert(slices.Clone(sorted), i, sorted[i])
		is(t, m, false)
		for j := range sorted {
			m.Recs = slices.Clone(sorted)
			m.Recs[i], m.Recs[j] = m.Recs[j], m.Recs[i]
			is(t, m, i == j)
		}
	}
	m.Recs = append(slices.Clone(sorted), sorted[0])
	is(t, m, false)
}

// P1302: a record that may not be, first, last or between.
func TestWrongRecs(t *testing.T) {
	for _, change := range []func(r *point.Rec){
		func(r *point.Rec) { r.Key = "" },
		func(r *point.Rec) { r.Key = long(17) },
		func(r *point.Rec) { r.Value = long(33) },
		func(r *point.Rec) { r.Ver = 0 },
		func(r *point.Rec) { r.Ver = -1 },
		func(r *point.Rec) { r.Ver = lastSeq + 1 },
		func(r *point.Rec) { r.At.X = -1 },
		func(r *point.Rec) { r.At.Y = -1 },
		func(r *point.Rec) { r.At.X = lastCell + 1 },
		func(r *point.Rec) { r.At.Y = lastCell + 1 },
		func(r *point.Rec) { *r = point.Rec{} },
	} {
		for _, n := range []int{1, 3, mostRecs} {
			for _, i := range []int{0, n / 2, n - 1} {
				m := bare(message.Part)
				m.Recs = manyRecs(n)
				change(&m.Recs[i])
				is(t, m, false)
			}
		}
	}
}

// P1302: the path of a Part.
func TestPathsOfParts(t *testing.T) {
	for _, p := range rightPaths() {
		m := full(message.Part)
		m.Path = p
		is(t, m, true)
	}
	for _, p := range wrongPaths() {
		m := full(message.Part)
		m.Path = p
		is(t, m, false)
	}
}

// P1302: a note that may be, but with From and To unlike the message's.
func TestNotesOfOthers(t *testing.T) {
	for kind := seat.Sync; kind <= seat.Grant; kind++ {
		for from := range nodes {
			for to := range nodes {
				n := bareNote(kind)
				n.From, n.To = from, to
				if kind == seat.Sync {
					n.Holder, n.Chain = from, []int{to}
				}
				if seat.RightNote(n) != (from != to) {
					t.Errorf("may %+v be?", n)
				}
				is(t, noted(n), from == 1 && to == 2)
			}
		}
	}
}

// noteMay: a message of such a note, when it has changed, may be or not.
func noteMay(t *testing.T, kind int, want bool, change func(n *seat.Note)) {
	t.Helper()
	n := bareNote(kind)
	change(&n)
	is(t, noted(n), want)
}

// P1302: notes that may not be (12).
func TestWrongNotes(t *testing.T) {
	for kind := seat.Sync; kind <= seat.Grant; kind++ {
		for _, p := range rightPaths() {
			noteMay(t, kind, true, func(n *seat.Note) { n.Path = p })
		}
		for _, p := range wrongPaths() {
			noteMay(t, kind, false, func(n *seat.Note) { n.Path = p })
		}
		bounds(t, noted(bareNote(kind)), 1, lastEpoch, func(m *message.Msg, n int) { m.Note.Epoch = n })
		bounds(t, noted(bareNote(kind)), 0, lastEpoch, func(m *message.Msg, n int) { m.Note.Index = n })
		for holder := -1; holder <= nodes; holder++ {
			noteMay(t, kind, holder == bareNote(kind).Holder, func(n *seat.Note) { n.Holder = holder })
		}
		noteMay(t, kind, kind == seat.Sync, func(n *seat.Note) { n.State = []byte{0} })
		noteMay(t, kind, kind == seat.Sync, func(n *seat.Note) { n.Chain = []int{0, 2} })
		noteMay(t, kind, kind <= seat.Append, func(n *seat.Note) { n.Pend = split() })
		noteMay(t, kind, kind != seat.Append, func(n *seat.Note) { n.Pend = entry.Entry{} })
		for _, wrong := range []int{0, -1, 7, 8, 128, math.MinInt, math.MaxInt} {
			noteMay(t, kind, false, func(n *seat.Note) { n.Kind = wrong })
		}
	}
	is(t, noted(seat.Note{}), false)
}

// P1302: chains of a Sync, and its State, that may be anything.
func TestSyncs(t *testing.T) {
	for _, l := range [][]int{{2}, {2, 0}, {0, 2}, {7, 6, 5, 4, 3, 2, 0}} {
		noteMay(t, seat.Sync, true, func(n *seat.Note) { n.Chain = l })
		noteMay(t, seat.Sync, false, func(n *seat.Note) { n.Chain = append(slices.Clone(l), 1) })
	}
	for _, l := range append(wrongChains(), nil, []int{}, []int{0}, []int{1, 2}) {
		noteMay(t, seat.Sync, false, func(n *seat.Note) { n.Chain = l })
	}
	for _, b := range [][]byte{nil, {}, {0}, {255, 255}, bytes.Repeat([]byte{7}, 127), bytes.Repeat([]byte{7}, 128), bytes.Repeat([]byte{200}, 1<<16)} {
		noteMay(t, seat.Sync, true, func(n *seat.Note) { n.State = b })
	}
}

// P1302: entries that may not be (11), of a Sync and of an Append.
func TestWrongEntries(t *testing.T) {
	for _, kind := range []int{seat.Sync, seat.Append} {
		for _, e := range []entry.Entry{
			{Kind: 6}, {Kind: -1}, {Kind: math.MaxInt}, {Node: 1}, {Epoch: 1}, {By: 1}, {By: -1}, {Chain: []int{1}}, {Op: point.Op{Key: "k"}}, {Op: call()},
			{Kind: entry.Call}, {Kind: entry.Call, Op: call(), Node: 1}, {Kind: entry.Add, Node: 8}, {Kind: entry.Add, Node: -1}, {Kind: entry.Drop, Node: 1, By: 1}, {Kind: entry.Drop, Chain: []int{1}},
			{Kind: entry.Split, Node: 2, By: 1, Chain: []int{2}}, {Kind: entry.Split, Node: 2, Epoch: 1, By: 2, Chain: []int{2}}, {Kind: entry.Move, Node: 2, Epoch: 1, By: 1, Chain: []int{0}},
			{Kind: entry.Move, Node: 2, Epoch: 1, By: 1, Chain: []int{2, 2}}, {Kind: entry.Move, Node: 2, Epoch: lastEpoch + 1, By: 1, Chain: []int{2}}, {Kind: entry.Split, Node: 2, Epoch: 1, By: 1, Chain: []int{2}, Op: call()},
		} {
			noteMay(t, kind, false, func(n *seat.Note) { n.Pend = e })
		}
	}
}

// P1302: Same of messages that differ in each field alone.
func TestSame(t *testing.T) {
	bases := append(samples(), message.Msg{}, stuffed())
	for _, a := range bases {
		for _, x := range leaves() {
			b := a
			x.change(&b)
			differ(t, a, b, x.name)
		}
		if !message.Same(a, a) {
			t.Errorf("%+v is not the same as itself", a)
		}
	}
	for _, x := range deepLeaves() {
		b := stuffed()
		x.change(&b)
		differ(t, stuffed(), b, x.name)
	}
	for _, a := range bases {
		for _, b := range bases {
			if message.Same(a, b) != alike(a, b) {
				t.Errorf("Same of %+v and %+v: %v", a, b, message.Same(a, b))
			}
		}
	}
}

func differ(t *testing.T, a, b message.Msg, name string) {
	t.Helper()
	if message.Same(a, b) || message.Same(b, a) || alike(a, b) {
		t.Errorf("but for %s, %+v is the same as %+v", name, a, b)
	}
	if !message.Same(b, b) {
		t.Errorf("%+v is not the same as itself", b)
	}
}

// P1302: Same of lists of nothing and no lists, each alone, and of copies whose lists lie elsewhere.
func TestSameLists(t *testing.T) {
	none := message.Msg{}
	for _, m := range []message.Msg{
		{Recs: []point.Rec{}}, {Zones: []message.Zone{}}, {Note: seat.Note{Chain: []int{}}}, {Note: seat.Note{State: []byte{}}}, {Note: seat.Note{Pend: entry.Entry{Chain: []int{}}}},
	} {
		if !message.Same(m, none) || !message.Same(none, m) {
			t.Errorf("%+v is not the same as no lists", m)
		}
	}
	a, b := message.Msg{Zones: []message.Zone{{}}}, message.Msg{Zones: []message.Zone{{Chain: []int{}}}}
	if !message.Same(a, b) || !message.Same(b, a) {
		t.Errorf("a zone's chain of nothing is not the same as no chain")
	}
	if !message.Same(stuffed(), stuffed()) || !message.Same(full(message.Beat), full(message.Beat)) {
		t.Errorf("copies are not the same")
	}
}
