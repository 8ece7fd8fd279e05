package message_test

import (
	"bytes"
	"math"
	"math/rand"
	"reflect"
	"slices"
	"strings"
	"testing"

	"glebe/api"
	"glebe/entry"
	"glebe/message"
	"glebe/point"
	"glebe/seat"
	"glebe/window"
)

// P1302: a frame, written out: the chapter's example, with its sum.
func TestFrameWrittenOut(t *testing.T) {
	m := message.Msg{Kind: message.Refuse, From: 0, To: 1, Ans: point.Ans{E: api.ErrCell}}
	want := []byte{3, 7, 6, 0, 0, 0, 1, 30, 0, 0, 0}
	sum := uint32(0xffffffff)
	for _, c := range want {
		for bit := range 8 {
			turn := (sum^uint32(c>>bit))&1 == 1
			sum >>= 1
			if turn {
				sum ^= 3988292384
			}
		}
	}
	sum = ^sum
	want = append(want, byte(sum), byte(sum>>8), byte(sum>>16), byte(sum>>24))
	if b, e := message.Put(m); e != api.OK || !bytes.Equal(b, want) {
		t.Errorf("%v, %d, want %v", b, e, want)
	}
	if got, e := message.Get(want); e != api.OK || !alike(got, m) {
		t.Errorf("%+v, %d", got, e)
	}
}

// written: messages and their contents behind From and To.
func written() []struct {
	m    message.Msg
	want string
} {
	type row = struct {
		m    message.Msg
		want string
	}
	msg := func(kind int, change func(m *message.Msg)) message.Msg {
		m := message.Msg{Kind: kind, From: 7, To: 0}
		change(&m)
		return m
	}
	note := func(n seat.Note) message.Msg {
		n.From, n.Path, n.Epoch, n.Index = 7, api.Path{Depth: 3, Bits: 5}, 300, 6
		return message.Msg{Kind: message.Seat, From: 7, Note: n}
	}
	chain := []int{0, 2}
	return []row{
		{msg(message.Beat, func(m *message.Msg) {}), "\x00"},
		{msg(message.Beat, func(m *message.Msg) {
			m.Zones = []message.Zone{{Path: api.Path{Depth: 3, Bits: 5}, Epoch: 300, Holder: 4, Chain: []int{1, 0}}, {Epoch: 1}}
		}), "\x02\x03\x05\xac\x02\x04\x02\x01\x00\x00\x00\x01\x00\x00"},
		{msg(message.Ask, func(m *message.Msg) { m.Op, m.Hops = call(), 64 }), "\x02\xac\x02\x02\x02ab\x01v\x07\x80\x01\x40"},
		{msg(message.Answer, func(m *message.Msg) { m.Seq, m.Ans = 300, point.Ans{E: 200, Found: true, Value: "vw", Ver: 3} }), "\xac\x02\xc8\x01\x01\x02vw\x03"},
		{msg(message.Answer, func(m *message.Msg) { m.Seq = 1 }), "\x01\x00\x00\x00\x00"},
		{msg(message.Probe, func(m *message.Msg) {
			m.Seq, m.Op.Client, m.Rect, m.Hops = 300, 6, window.Rect{X: 1, Y: 2, W: 3, H: 65536}, 9
		}), "\xac\x02\x06\x01\x02\x03\x80\x80\x04\x09"},
		{msg(message.Part, func(m *message.Msg) { m.Seq, m.Path = 300, api.Path{Depth: 2, Bits: 3} }), "\xac\x02\x02\x03\x00"},
		{msg(message.Part, func(m *message.Msg) { m.Seq, m.Recs = 1, full(message.Part).Recs[1:] }), "\x01\x00\x00\x02\x08\x01\x01b\x01w\x02\x03\x02\x01a\x01x\xac\x02"},
		{msg(message.Join, func(m *message.Msg) { m.Op.Client, m.At, m.Hops = 3, api.Point{X: 65535, Y: 1}, 2 }), "\x03\xff\xff\x03\x01\x02"},
		{msg(message.Refuse, func(m *message.Msg) { m.Ans.E = 255 }), "\xff\x01\x00\x00\x00"},
		{note(seat.Note{Kind: seat.Sync, Holder: 7, Chain: chain}), "\x01\x03\x05\xac\x02\x06\x02\x00\x02\x00\x00"},
		{note(seat.Note{Kind: seat.Sync, Holder: 7, Chain: chain, State: []byte("s\x00")}), "\x01\x03\x05\xac\x02\x06\x02\x00\x02\x00\x02s\x00"},
		{note(seat.Note{Kind: seat.Sync, Holder: 7, Chain: chain, Pend: entry.Entry{Kind: entry.Add, Node: 3}, State: []byte("s")}), "\x01\x03\x05\xac\x02\x06\x02\x00\x02\x01\x02\x03\x01s"},
		{note(seat.Note{Kind: seat.Append, Pend: split()}), "\x02\x03\x05\xac\x02\x06\x04\x02\x41\x01\x02\x00\x02"},
		{note(seat.Note{Kind: seat.Append, Pend: entry.Entry{Kind: entry.Call, Op: call()}}), "\x02\x03\x05\xac\x02\x06\x01\x02\xac\x02\x02\x02ab\x01v\x07\x80\x01"},
		{note(seat.Note{Kind: seat.Have}), "\x03\x03\x05\xac\x02\x06"},
		{note(seat.Note{Kind: seat.Dismiss}), "\x04\x03\x05\xac\x02\x06"},
		{note(seat.Note{Kind: seat.Freed}), "\x05\x03\x05\xac\x02\x06"},
		{note(seat.Note{Kind: seat.Grant}), "\x06\x03\x05\xac\x02\x06"},
	}
}

// P1302: the bytes of each Kind, written out, are put and got.
func TestWrittenOut(t *testing.T) {
	for _, x := range written() {
		b := framed(x.m.Kind, []byte("\x07\x00"+x.want))
		if got, e := message.Put(x.m); e != api.OK || !bytes.Equal(got, b) {
			t.Errorf("Put of %+v: %q, %d, want %q", x.m, got, e, b)
		}
		if got, e := message.Get(b); e != api.OK || !alike(got, x.m) {
			t.Errorf("Get of %q: %+v, %d, want %+v", b, got, e, x.m)
		}
		is(t, x.m, true)
	}
}

// ends: Get of these bytes ends so, and with an error it answers nothing else.
func ends(t *testing.T, b []byte, want api.Errno) {
	t.Helper()
	if e := gets(t, b); e != want {
		t.Errorf("Get of %v: %d, want %d", b, e, want)
	}
}

// P1302: bytes that end too early at each place; with something behind them.
func TestBeginnings(t *testing.T) {
	for _, m := range samples() {
		b := framed(m.Kind, content(m))
		for i := range b {
			ends(t, b[:i], api.ErrEnd)
		}
		ends(t, b, api.OK)
		for _, behind := range [][]byte{{0}, {3}, b, bytes.Repeat([]byte{7}, 1000)} {
			ends(t, slices.Concat(b, behind), api.ErrForm)
		}
	}
	ends(t, nil, api.ErrEnd)
	ends(t, []byte{}, api.ErrEnd)
}

// P1302: a frame whose content ends too early at each place, or has something left.
func TestContents(t *testing.T) {
	for _, m := range samples() {
		c := content(m)
		for i := range c {
			ends(t, framed(m.Kind, c[:i]), api.ErrForm)
		}
		for _, behind := range [][]byte{{0}, {1}, {128}, {255, 255}, c, bytes.Repeat([]byte{0}, 500)} {
			ends(t, framed(m.Kind, slices.Concat(c, behind)), api.ErrForm)
		}
	}
}

// P1302: what Unframe refuses is refused so.
func TestFramesThatAreNone(t *testing.T) {
	for _, m := range samples() {
		b := framed(m.Kind, content(m))
		for _, version := range []byte{0, 1, 2, 4, 255} {
			c := bytes.Clone(b)
			c[0] = version
			ends(t, c, api.ErrForm)
		}
		c := bytes.Clone(b)
		c[4] = 2
		c[2]++
		ends(t, c, api.ErrForm)
		c = bytes.Clone(b)
		c[2]++
		ends(t, c, api.ErrEnd)
		c = bytes.Clone(b)
		c[2]--
		ends(t, c, api.ErrForm)
		c = bytes.Clone(b)
		c[len(c)-1]++
		ends(t, c, api.ErrSum)
		c = bytes.Clone(b)
		c[1]++
		ends(t, c, api.ErrSum)
	}
	ends(t, framed(message.Beat, make([]byte, mostBytes+1)), api.ErrForm)
	ends(t, framed(message.Beat, make([]byte, mostBytes)), api.ErrForm)
	ends(t, bytes.Repeat([]byte{3}, 1<<20), api.ErrForm)
}

// P1302: a frame of another kind: of none, and of each of the others.
func TestFramesOfOtherKinds(t *testing.T) {
	for _, m := range samples() {
		for kind := range 256 {
			e := gets(t, framed(kind, content(m)))
			if none := kind == 0 || kind > message.Seat; none && e != api.ErrForm {
				t.Errorf("kind %d: %d", kind, e)
			}
		}
	}
	for kind := range 256 {
		ends(t, framed(kind, nil), api.ErrForm)
		ends(t, framed(kind, []byte{1, 2}), api.ErrForm)
	}
}

// P1302: a content from no node, to none, or to who sends it.
func TestContentsOfNodes(t *testing.T) {
	for kind := message.Beat; kind <= message.Seat; kind++ {
		rest := content(bare(kind))[2:] // of a Seat a Have's, which names no nodes of its own
		for from := range 10 {
			for to := range 10 {
				want := api.ErrForm
				if nodeIs(from) && nodeIs(to) && from != to {
					want = api.OK
				}
				ends(t, framed(kind, slices.Concat(nums(from, to), rest)), want)
			}
		}
		for _, n := range []int{127, 128, 256, 257, 1 << 32, lastNum, lastNum + 1} {
			ends(t, framed(kind, slices.Concat(nums(1, n), rest)), api.ErrForm)
			ends(t, framed(kind, slices.Concat(nums(n, 2), rest)), api.ErrForm)
		}
	}
}

// P1302: of a Sync, and of who else has a 0 or 1: another number there.
func TestFlags(t *testing.T) {
	frame := func(kind int, parts ...[]byte) []byte {
		return framed(kind, slices.Concat(append([][]byte{{1, 2}}, parts...)...))
	}
	sync := []byte{1, 0, 0, 1, 0, 1, 2}
	add := []byte{2, 3}
	ends(t, frame(message.Seat, sync, num(0), []byte{0}), api.OK)
	ends(t, frame(message.Seat, sync, num(1), add, []byte{0}), api.OK)
	ends(t, frame(message.Seat, sync, num(0), add, []byte{0}), api.OK) // a State of two bytes
	ends(t, frame(message.Seat, sync, num(0), add, []byte{0, 0}), api.ErrForm)
	ends(t, frame(message.Seat, sync, num(1), []byte{0}), api.ErrForm)
	ends(t, frame(message.Seat, sync, num(1), []byte{0, 0}), api.ErrForm)
	ends(t, frame(message.Answer, []byte{1, 0, 0, 0, 0}), api.OK)
	ends(t, frame(message.Answer, []byte{1, 0, 1, 0, 0}), api.OK)
	for _, n := range []int{2, 3, 127, 128, 256, 257, 1 << 32, 1<<32 + 1, lastNum, lastNum + 1} {
		ends(t, frame(message.Seat, sync, num(n), []byte{0}), api.ErrForm)
		ends(t, frame(message.Seat, sync, num(n), add, []byte{0}), api.ErrForm)
		ends(t, frame(message.Answer, []byte{1, 0}, num(n), []byte{0, 0}), api.ErrForm)
		ends(t, frame(message.Refuse, []byte{30}, num(n), []byte{0, 0}), api.ErrForm)
	}
}

// P1302: counts that are too great, with or without so many behind them.
func TestCounts(t *testing.T) {
	head := nums(1, 2)
	zone := nums(0, 0, 1, 0, 0)
	for _, n := range []int{64, 65, 127, 128, 300, 1 << 16, 1 << 32, lastNum, lastNum + 1} {
		ends(t, framed(message.Beat, slices.Concat(head, num(n))), api.ErrForm)
		ends(t, framed(message.Beat, slices.Concat(head, num(n), zone)), api.ErrForm)
		want := api.OK
		if n > mostZones {
			want = api.ErrForm
		}
		ends(t, framed(message.Beat, slices.Concat(head, num(n), bytes.Repeat(zone, min(n, 1<<12)))), want)
	}
	for _, n := range []int{1, 512, 513, 1 << 16, 1 << 32, lastNum, lastNum + 1} {
		ends(t, framed(message.Part, slices.Concat(head, nums(1, 0, 0), num(n))), api.ErrForm)
	}
	for _, n := range []int{1, 8, 9, 1 << 32, lastNum} {
		ends(t, framed(message.Beat, slices.Concat(head, nums(1, 0, 0, 1, 0), num(n))), api.ErrForm)
		ends(t, framed(message.Seat, slices.Concat(head, nums(seat.Sync, 0, 0, 1, 0), num(n), nums(2))), api.ErrForm)
	}
	for _, n := range []int{2, 300, mostBytes, mostBytes + 1, 1 << 32, lastNum, lastNum + 1} {
		ends(t, framed(message.Seat, slices.Concat(head, nums(seat.Sync, 0, 0, 1, 0, 1, 2, 0), num(n), []byte("s"))), api.ErrForm)
	}
}

// P1302: contents of what can be read, but may not be, all that a row asks of it one by one.
func TestContentsThatMayNotBe(t *testing.T) {
	number := func(least, most int) []int { return []int{least - 1, most + 1, lastNum} }
	var wrong []message.Msg
	change := func(kind int, numbers []int, set func(m *message.Msg, n int)) {
		for _, n := range numbers {
			m := full(kind)
			set(&m, n)
			if n >= 0 {
				wrong = append(wrong, m)
			}
		}
	}
	for _, kind := range []int{message.Ask, message.Probe, message.Join} {
		change(kind, number(0, lastHop), func(m *message.Msg, n int) { m.Hops = n })
		change(kind, number(0, nodes-1), func(m *message.Msg, n int) { m.Op.Client = n })
	}
	for _, kind := range []int{message.Answer, message.Probe, message.Part} {
		change(kind, number(1, lastSeq), func(m *message.Msg, n int) { m.Seq = n })
	}
	change(message.Probe, number(0, lastSide), func(m *message.Msg, n int) { m.Rect.X = n })
	change(message.Probe, number(0, lastSide), func(m *message.Msg, n int) { m.Rect.Y = n })
	change(message.Probe, number(0, lastSide), func(m *message.Msg, n int) { m.Rect.W = n })
	change(message.Probe, number(0, lastSide), func(m *message.Msg, n int) { m.Rect.H = n })
	change(message.Join, number(0, lastCell), func(m *message.Msg, n int) { m.At.X = n })
	change(message.Join, number(0, lastCell), func(m *message.Msg, n int) { m.At.Y = n })
	change(message.Refuse, number(1, 255), func(m *message.Msg, n int) { m.Ans.E = api.Errno(n) })
	change(message.Refuse, []int{1}, func(m *message.Msg, n int) { m.Ans.Found = true })
	change(message.Refuse, []int{1}, func(m *message.Msg, n int) { m.Ans.Value = "v" })
	change(message.Refuse, []int{1}, func(m *message.Msg, n int) { m.Ans.Ver = n })
	change(message.Answer, []int{1}, func(m *message.Msg, n int) { m.Ans.Found = false })
	change(message.Part, []int{0, 33, lastNum}, func(m *message.Msg, n int) { m.Path.Depth = n })
	change(message.Part, []int{4, lastNum}, func(m *message.Msg, n int) { m.Path.Bits = n })
	change(message.Part, number(1, lastSeq), func(m *message.Msg, n int) { m.Recs[2].Ver = n })
	change(message.Part, []int{513, 600}, func(m *message.Msg, n int) { m.Recs = manyRecs(n) })
	change(message.Part, []int{1}, func(m *message.Msg, n int) { m.Recs[0], m.Recs[1] = m.Recs[1], m.Recs[0] })
	change(message.Part, []int{1}, func(m *message.Msg, n int) { m.Recs[1].At, m.Recs[1].Key = m.Recs[0].At, m.Recs[0].Key })
	change(message.Beat, []int{65, 100}, func(m *message.Msg, n int) { m.Zones = manyZones(n) })
	change(message.Beat, number(1, lastEpoch), func(m *message.Msg, n int) { m.Zones[1].Epoch = n })
	change(message.Beat, number(0, nodes-1), func(m *message.Msg, n int) { m.Zones[1].Holder = n })
	change(message.Beat, []int{7}, func(m *message.Msg, n int) { m.Zones[1].Holder = n })
	change(message.Beat, []int{0, 33}, func(m *message.Msg, n int) { m.Zones[1].Path.Depth = n })
	change(message.Beat, number(0, nodes-1), func(m *message.Msg, n int) { m.Zones[0].Chain[1] = n })
	change(message.Seat, number(1, 6), func(m *message.Msg, n int) { m.Note.Kind = n })
	change(message.Seat, number(1, lastEpoch), func(m *message.Msg, n int) { m.Note.Epoch = n })
	change(message.Seat, number(0, lastEpoch), func(m *message.Msg, n int) { m.Note.Index = n })
	change(message.Seat, []int{0, 2, 33}, func(m *message.Msg, n int) { m.Note.Path.Depth = n })
	change(message.Seat, []int{7, 8}, func(m *message.Msg, n int) { m.Note.Chain[0] = n })
	change(message.Seat, []int{1}, func(m *message.Msg, n int) { m.Note.Chain[1] = n })
	change(message.Seat, number(1, lastEpoch), func(m *message.Msg, n int) { m.Note.Pend.Epoch = n })
	for _, m := range wrong {
		is(t, m, false)
		ends(t, framed(m.Kind, content(m)), api.ErrForm)
	}
}

// P1302: a number that is not written in as few bytes as can be, in each place.
func TestNumbersTooLong(t *testing.T) {
	for kind := message.Beat; kind <= message.Seat; kind++ {
		if kind == message.Ask || kind == message.Part {
			continue // their texts' bytes are no numbers
		}
		c := content(bare(kind))
		for i, n := range c {
			if n >= 128 {
				continue
			}
			l := slices.Insert(bytes.Clone(c), i+1, 0)
			l[i] += 128
			ends(t, framed(kind, l), api.ErrForm)
		}
	}
}

// syncOf: a Sync whose content has so many bytes.
func syncOf(size int) message.Msg {
	n := bareNote(seat.Sync)
	n.Pend = split()
	bareSize := len(content(noted(n)))
	n.State = bytes.Repeat([]byte("state"), size/5+1)[:size-bareSize]
	for len(content(noted(n))) > size {
		n.State = n.State[1:]
	}
	return noted(n)
}

// P1302: a content of MaxBytes bytes, of one byte more, and of many more.
func TestSizes(t *testing.T) {
	for _, size := range []int{100, mostBytes - 1, mostBytes, mostBytes + 1, mostBytes + 2, 1 << 20} {
		m := syncOf(size)
		if n := len(content(m)); n != size {
			t.Fatalf("%d bytes, want %d", n, size)
		}
		is(t, m, true)
		want := api.OK
		if size > mostBytes {
			want = api.ErrSize
		}
		puts(t, m, want)
	}
	for _, n := range []int{mostBytes - 20, mostBytes, mostBytes + 1, 1 << 18} {
		note := bareNote(seat.Sync)
		note.State = make([]byte, n)
		is(t, noted(note), true)
		if n >= mostBytes {
			puts(t, noted(note), api.ErrSize)
		}
	}
}

// P1302: what may not be is ErrArg, though it would have too many bytes, too.
func TestTooLongAndWrong(t *testing.T) {
	for _, change := range []func(m *message.Msg){
		func(m *message.Msg) { m.From = 3 },
		func(m *message.Msg) { m.To = 8 },
		func(m *message.Msg) { m.Kind = message.Ask },
		func(m *message.Msg) { m.Kind = 9 },
		func(m *message.Msg) { m.Hops = 1 },
		func(m *message.Msg) { m.Seq = 1 },
		func(m *message.Msg) { m.Recs = manyRecs(1) },
		func(m *message.Msg) { m.Note.Kind = seat.Have },
		func(m *message.Msg) { m.Note.Epoch = 0 },
		func(m *message.Msg) { m.Note.Holder = 0 },
		func(m *message.Msg) { m.Note.Chain = []int{3} },
		func(m *message.Msg) { m.Note.Pend.Epoch = 0 },
	} {
		m := syncOf(mostBytes + 1)
		puts(t, m, api.ErrSize)
		change(&m)
		is(t, m, false)
		puts(t, m, api.ErrArg)
	}
}

// P1302: what has most bytes of each Kind but a Sync fits by far.
func TestLongest(t *testing.T) {
	part := bare(message.Part)
	part.Seq, part.Path = lastSeq, api.Path{Depth: 32, Bits: 1<<32 - 1}
	for i := range mostRecs {
		key := long(14) + string([]byte{byte(i / 256), byte(i)})
		part.Recs = append(part.Recs, point.Rec{At: api.Point{X: lastCell, Y: lastCell}, Key: key, Value: long(32), Ver: lastSeq})
	}
	beat := bare(message.Beat)
	zone := message.Zone{Path: part.Path, Epoch: lastEpoch, Holder: 7, Chain: []int{0, 1, 2, 3, 4, 5, 6}}
	beat.Zones = slices.Repeat([]message.Zone{zone}, mostZones)
	for _, m := range []message.Msg{part, beat} {
		is(t, m, true)
		puts(t, m, api.OK)
	}
}

// P1302: huge and negative numbers, long lists and texts.
func TestHugeInputs(t *testing.T) {
	huge := stuffed()
	huge.Recs = slices.Repeat(huge.Recs, 1<<14)
	huge.Zones = slices.Repeat(huge.Zones, 1<<14)
	huge.Zones[0].Chain = slices.Repeat([]int{math.MaxInt}, 1<<14)
	huge.Op.Key, huge.Op.Value = long(1<<20), long(1<<20)
	huge.Note.State = []byte(strings.Repeat("s", 1<<20))
	huge.Note.Chain, huge.Note.Pend.Chain = slices.Repeat([]int{math.MinInt}, 1<<14), huge.Zones[0].Chain
	for kind := -1; kind <= 10; kind++ {
		m := huge
		m.Kind = kind
		if message.Right(m) {
			t.Errorf("Kind %d may be", kind)
		}
		if b, e := message.Put(m); len(b) > 0 || e != api.ErrArg {
			t.Errorf("Kind %d: %d bytes, %d", kind, len(b), e)
		}
		if !message.Same(m, m) || message.Same(m, huge) != (kind == huge.Kind) {
			t.Errorf("Kind %d: Same", kind)
		}
	}
	if message.RightZone(huge.Zones[0]) {
		t.Errorf("a zone with a chain of 2^14 nodes may be")
	}
	r := rand.New(rand.NewSource(1))
	for _, n := range []int{1 << 10, 1 << 17, 1 << 20} {
		b := make([]byte, n)
		r.Read(b)
		if m, e := message.Get(b); e == api.OK || !reflect.DeepEqual(m, message.Msg{}) {
			t.Errorf("%d bytes: %+v, %d", n, m, e)
		}
	}
}
