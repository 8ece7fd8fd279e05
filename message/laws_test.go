package message_test

import (
	"bytes"
	"math/rand"
	"reflect"
	"slices"
	"testing"

	"glebe/api"
	"glebe/entry"
	"glebe/message"
	"glebe/point"
	"glebe/seat"
)

// P1303: Get of Put is the message.
func TestThereAndBack(t *testing.T) {
	r := rand.New(rand.NewSource(1))
	seen := map[int]int{}
	for range 20000 {
		m := drawn(r)
		seen[m.Kind]++
		is(t, m, true)
		b, e := message.Put(m)
		if e != api.OK {
			t.Fatalf("Put of %+v: %d", m, e)
		}
		if got, e := message.Get(b); e != api.OK || !message.Same(got, m) || !message.Same(m, got) || !alike(got, m) {
			t.Fatalf("Get of Put of %+v: %+v, %d", m, got, e)
		}
	}
	for kind := 1; kind <= 8; kind++ {
		if seen[kind] < 1000 {
			t.Errorf("%d of Kind %d", seen[kind], kind)
		}
	}
}

// P1302: Right and Put of drawn messages of which something was changed.
func TestChangedMessages(t *testing.T) {
	r := rand.New(rand.NewSource(2))
	right := 0
	for range 60000 {
		m := drawn(r)
		for range 1 + r.Intn(2) {
			m = changed(r, m)
		}
		if holds(t, m) {
			right++
		}
	}
	if right < 6000 || right > 54000 {
		t.Errorf("%d may be", right)
	}
}

// P1302: RightZone of drawn zones.
func TestDrawnZones(t *testing.T) {
	r := rand.New(rand.NewSource(3))
	right := 0
	for range 40000 {
		z := message.Zone{Path: drawnPath(r), Epoch: end(r, 1, lastEpoch), Holder: r.Intn(nodes), Chain: r.Perm(nodes)[:r.Intn(4)]}
		switch r.Intn(6) {
		case 0:
			z.Epoch = someNumber(r)
		case 1:
			z.Path.Bits = someNumber(r)
		case 2:
			z.Chain = append(z.Chain, someNumber(r))
		case 3:
			z.Holder = someNumber(r)
		}
		if message.RightZone(z) != zoneIs(z) {
			t.Fatalf("RightZone of %+v: %v", z, !zoneIs(z))
		}
		if zoneIs(z) {
			right++
		}
	}
	if right < 10000 || right > 30000 {
		t.Errorf("%d may be", right)
	}
}

// P1302: Same of drawn messages and of such as were changed.
func TestDrawnSame(t *testing.T) {
	r := rand.New(rand.NewSource(4))
	same := 0
	for range 20000 {
		a := drawn(r)
		b, c := changed(r, a), drawn(r)
		for _, x := range []message.Msg{a, b, c} {
			if message.Same(a, x) != alike(a, x) || message.Same(x, a) != alike(a, x) {
				t.Fatalf("Same of %+v and %+v: %v", a, x, message.Same(a, x))
			}
		}
		if message.Same(a, b) {
			same++
		}
	}
	if same < 1000 || same > 15000 {
		t.Errorf("%d were the same", same)
	}
}

// P1302, P1304: Get of drawn and spoilt contents; what is got is put as the bytes that it was got of.
func TestDrawnBytes(t *testing.T) {
	r := rand.New(rand.NewSource(5))
	seen := map[api.Errno]int{}
	for i := range 80000 {
		m := drawn(r)
		b := content(m)
		switch i % 4 {
		case 0:
			b = slices.Concat(b[:2], []byte(someText(r, r.Intn(20))))
		case 1:
			b = content(changed(r, m))
		default:
			for range r.Intn(3) {
				b = spoilt(r, b)
			}
		}
		if len(b) <= mostBytes {
			b = framed(m.Kind, b)
		}
		if r.Intn(8) == 0 {
			b = spoilt(r, b)
		}
		seen[gets(t, b)]++
	}
	for e, least := range map[api.Errno]int{api.OK: 10000, api.ErrForm: 10000, api.ErrEnd: 500, api.ErrSum: 500} {
		if seen[e] < least {
			t.Errorf("%d was told %d times", e, seen[e])
		}
	}
}

// P1304: any bytes are refused, but such as are a message.
func TestAnyBytes(t *testing.T) {
	r := rand.New(rand.NewSource(6))
	for i := range 40000 {
		b := []byte(someText(r, r.Intn(60)))
		if i%2 == 0 && len(b) > 4 {
			b[0], b[1], b[2], b[3], b[4] = 3, b[1]%10, byte(max(len(b)-9, 0)), 0, 0
		}
		gets(t, b)
	}
}

// P1302, P1304: all short contents of small numbers, of each Kind.
func TestAllShortContents(t *testing.T) {
	small := []byte{0, 1, 2, 128}
	for kind := 1; kind <= 8; kind++ {
		got := 0
		for i := range 1 << 14 {
			b := []byte{2, 1}
			for j := range 7 {
				b = append(b, small[i>>(2*j)&3])
			}
			for n := 3; n <= len(b); n++ {
				if n < len(b) && i>>(2*n-4) != 0 {
					continue // as it is with zeros behind
				}
				if gets(t, framed(kind, b[:n])) == api.OK {
					got++
				}
			}
		}
		if got < 1 && kind != message.Ask {
			t.Errorf("none was got of Kind %d", kind)
		}
	}
}

// refused: the bytes, turned, are no message.
func refused(t *testing.T, b []byte, at int, mask uint32) {
	t.Helper()
	c := bytes.Clone(b)
	for bit := range 32 {
		if mask>>bit&1 == 1 && (at+bit)/8 < len(c) {
			c[(at+bit)/8] ^= 1 << ((at + bit) % 8)
		}
	}
	if m, e := message.Get(c); e != api.ErrSum || !reflect.DeepEqual(m, message.Msg{}) {
		t.Fatalf("of %v, turned to %v: %+v, %d", b, c, m, e)
	}
}

// P1305: bits turned, all within 32, behind the first five bytes, are refused.
func TestTurnedBits(t *testing.T) {
	r := rand.New(rand.NewSource(7))
	for _, m := range samples() {
		b, _ := message.Put(m)
		for at := 40; at < 8*len(b); at++ {
			refused(t, b, at, 1)
			refused(t, b, at, 3)
			refused(t, b, at, 1<<31|1)
			refused(t, b, at, 1<<32-1)
			for range 20 {
				refused(t, b, at, r.Uint32()>>r.Intn(32)|1)
			}
		}
	}
}

// P1305: likewise of drawn messages.
func TestTurnedBitsOfDrawnMessages(t *testing.T) {
	r := rand.New(rand.NewSource(8))
	for range 20000 {
		m := drawn(r)
		b, _ := message.Put(m)
		refused(t, b, 40+r.Intn(8*len(b)-40), r.Uint32()>>r.Intn(32)|1)
	}
}

// P5: bytes that were cut off, and bytes of two messages, are refused.
func TestCutAndJoined(t *testing.T) {
	r := rand.New(rand.NewSource(9))
	for range 3000 {
		a, _ := message.Put(drawn(r))
		b, _ := message.Put(drawn(r))
		ends(t, a[:r.Intn(len(a))], api.ErrEnd)
		ends(t, slices.Concat(a, b), api.ErrForm)
	}
}

// roomy: the list at the beginning of a longer one, whose rest is all the same.
func roomy[T any](l []T, rest T) []T {
	return slices.Concat(l, slices.Repeat([]T{rest}, 4))[:len(l)]
}

// spread: the message with room behind each of its lists, and a copy that shares nothing with it.
func spread(m message.Msg) (with, copy message.Msg) {
	with, copy = m, m
	for _, x := range []*message.Msg{&with, &copy} {
		x.Recs = roomy(m.Recs, point.Rec{Ver: 77})
		x.Zones = roomy(m.Zones, message.Zone{Epoch: 77})
		for i, z := range m.Zones {
			x.Zones[i].Chain = roomy(z.Chain, 77)
		}
		x.Note.Chain, x.Note.Pend.Chain = roomy(m.Note.Chain, 77), roomy(m.Note.Pend.Chain, 77)
		x.Note.State = roomy(m.Note.State, 77)
	}
	return with, copy
}

// grown: the message with all the room behind its lists.
func grown(m message.Msg) message.Msg {
	m.Recs, m.Zones = m.Recs[:cap(m.Recs)], slices.Clone(m.Zones[:cap(m.Zones)])
	for i, z := range m.Zones {
		m.Zones[i].Chain = z.Chain[:cap(z.Chain)]
	}
	m.Note.Chain, m.Note.Pend.Chain = m.Note.Chain[:cap(m.Note.Chain)], m.Note.Pend.Chain[:cap(m.Note.Pend.Chain)]
	m.Note.State = m.Note.State[:cap(m.Note.State)]
	return m
}

func fill[T any](l []T, with T) {
	for i := range l[:cap(l)] {
		l[:cap(l)][i] = with
	}
}

// spoil: all lists of the message, and the room behind them.
func spoil(m message.Msg) {
	for _, z := range m.Zones {
		fill(z.Chain, -99)
	}
	fill(m.Recs, point.Rec{Key: "spoilt"})
	fill(m.Zones, message.Zone{Epoch: -99})
	fill(m.Note.Chain, -99)
	fill(m.Note.Pend.Chain, -99)
	fill(m.Note.State, 0x55)
}

// P1301: what is handed in is not changed, nor the room behind it.
func TestNothingIsChanged(t *testing.T) {
	r := rand.New(rand.NewSource(10))
	for i := range 6000 {
		m := drawn(r)
		if i%2 == 0 {
			m = changed(r, m)
		}
		given, kept := spread(m)
		message.Right(given)
		message.Same(given, given)
		for _, z := range given.Zones {
			message.RightZone(z)
		}
		b, _ := message.Put(given)
		if !reflect.DeepEqual(grown(given), grown(kept)) {
			t.Fatalf("%+v has become %+v", kept, given)
		}
		was := bytes.Clone(b[:cap(b)])
		got, _ := message.Get(b)
		spoil(got)
		if !bytes.Equal(b[:cap(b)], was) {
			t.Fatalf("%v has become %v", was, b)
		}
		fill(b, 0x55)
		if !reflect.DeepEqual(grown(given), grown(kept)) {
			t.Fatalf("%+v has become %+v, with the bytes", kept, given)
		}
	}
}

// P1301: what is put and got is apart from what was handed in, and from all other answers.
func TestAnswersAreApart(t *testing.T) {
	r := rand.New(rand.NewSource(11))
	for range 6000 {
		m := drawn(r)
		given, kept := spread(m)
		one, _ := message.Put(given)
		two, _ := message.Put(given)
		fill(one, 0x55)
		spoil(given)
		want := framed(kept.Kind, content(kept))
		if !bytes.Equal(two, want) {
			t.Fatalf("%v, want %v", two, want)
		}
		a, _ := message.Get(two)
		b, _ := message.Get(two)
		fill(two, 0x55)
		spoil(a)
		if !alike(b, kept) {
			t.Fatalf("%+v has become %+v", kept, b)
		}
	}
}

// P1301: no two lists of one answer share anything, nor the room behind it.
func TestListsOfOneAnswerAreApart(t *testing.T) {
	r := rand.New(rand.NewSource(12))
	for range 4000 {
		m := drawn(r)
		b, _ := message.Put(m)
		got, _ := message.Get(b)
		for i := range got.Zones {
			spoilt := got.Zones[i].Chain
			fill(spoilt, -99)
			got.Zones[i].Chain = slices.Clone(m.Zones[i].Chain)
			if !alike(got, m) {
				t.Fatalf("%+v has become %+v", m, got)
			}
		}
		fill(got.Note.Chain, -99)
		got.Note.Chain = slices.Clone(m.Note.Chain)
		if !alike(got, m) {
			t.Fatalf("%+v has become %+v", m, got)
		}
		fill(got.Note.Pend.Chain, -99)
		got.Note.Pend.Chain = slices.Clone(m.Note.Pend.Chain)
		if !alike(got, m) {
			t.Fatalf("%+v has become %+v", m, got)
		}
	}
}

// someMessage: of any fields.
func someMessage(r *rand.Rand) message.Msg {
	texts := []string{"", "a", "\xff", long(16), long(33), long(1 << 12)}
	pick := func() string { return texts[r.Intn(len(texts))] }
	var m message.Msg
	for _, n := range places(&m) {
		if r.Intn(4) > 0 {
			*n = someNumber(r)
		}
	}
	m.Op.Key, m.Op.Value, m.Ans.Value, m.Ans.Found = pick(), pick(), pick(), r.Intn(2) == 0
	m.Note.State = []byte(pick())
	for range r.Intn(4) {
		m.Recs = append(m.Recs, point.Rec{At: api.Point{X: someNumber(r), Y: someNumber(r)}, Key: pick(), Value: pick(), Ver: someNumber(r)})
		m.Zones = append(m.Zones, message.Zone{Path: api.Path{Depth: someNumber(r), Bits: someNumber(r)}, Epoch: someNumber(r), Holder: someNumber(r), Chain: []int{someNumber(r), someNumber(r)}})
		m.Note.Chain, m.Note.Pend.Chain = append(m.Note.Chain, someNumber(r)), append(m.Note.Pend.Chain, someNumber(r))
	}
	return m
}

// P7: there is an answer, whatever is asked.
func TestAnything(t *testing.T) {
	r := rand.New(rand.NewSource(13))
	for range 20000 {
		m, other := someMessage(r), someMessage(r)
		holds(t, m)
		if message.Same(m, other) != alike(m, other) || !message.Same(m, m) {
			t.Fatalf("Same of %+v and %+v", m, other)
		}
		for _, z := range m.Zones {
			if message.RightZone(z) != zoneIs(z) {
				t.Fatalf("RightZone of %+v", z)
			}
		}
		// what may be, but for one thing
		m.Kind, m.From, m.To = 1+r.Intn(8), 1, 2
		sparse := message.Msg{Kind: m.Kind, From: 1, To: 2}
		for _, field := range row(m.Kind) {
			sparse = with(sparse, m, field)
		}
		holds(t, sparse)
	}
}

// P8: the same calls have the same answers.
func TestAgain(t *testing.T) {
	r := rand.New(rand.NewSource(14))
	for range 3000 {
		m := changed(r, drawn(r))
		one, e := message.Put(m)
		if two, again := message.Put(m); !bytes.Equal(one, two) || e != again || message.Right(m) != message.Right(m) {
			t.Fatalf("Put of %+v: %v, %d, then %v, %d", m, one, e, two, again)
		}
		x := drawn(r)
		b := spoilt(r, framed(x.Kind, content(x)))
		got, e := message.Get(b)
		if second, again := message.Get(b); !reflect.DeepEqual(got, second) || e != again {
			t.Fatalf("Get of %v: %+v, %d, then %+v, %d", b, got, e, second, again)
		}
	}
}

// P1303: notes that seats send, one to the other, are got as they were put, and heard likewise.
func TestNotesOfSeats(t *testing.T) {
	var down seat.Down
	through := func(n seat.Note) seat.Note {
		b, e := message.Put(message.Msg{Kind: message.Seat, From: n.From, To: n.To, Note: n})
		m, again := message.Get(b)
		if e != api.OK || again != api.OK || m.Note.Kind != n.Kind {
			t.Fatalf("of %+v: %d, %d, %+v", n, e, again, m)
		}
		return m.Note
	}
	holder, _ := seat.Found(3, 5, api.Path{Depth: 1, Bits: 1}, 9)
	holder.Settle(down)
	o := call()
	o.At = api.Point{X: 4, Y: 1}
	for _, e := range []entry.Entry{{Kind: entry.Call, Op: o}, {Kind: entry.Add, Node: 2}} {
		if fault := holder.Propose(e); fault != api.OK {
			t.Fatalf("Propose of %+v: %d", e, fault)
		}
		holder.Settle(down)
	}
	heir, have, e := seat.Heir(3, 2, through(holder.Out(down)[0]))
	if e != api.OK || !heir.Shelf().Same(holder.Shelf()) {
		t.Fatalf("Heir: %d", e)
	}
	if _, _, e := holder.Hear(through(have)); e != api.OK {
		t.Fatalf("Hear: %d", e)
	}
	if e := holder.Propose(entry.Entry{Kind: entry.Move, Node: 2, Epoch: 73, By: 5, Chain: []int{2}}); e != api.OK {
		t.Fatalf("Propose: %d", e)
	}
	_, have, e = heir.Hear(through(holder.Out(down)[0]))
	if e != api.OK {
		t.Fatalf("Hear of an Append: %d", e)
	}
	holder.Hear(through(have))
	moved, _ := holder.Settle(down)
	grants := moved[0].Out(down)
	if len(grants) != 1 || grants[0].Kind != seat.Grant {
		t.Fatalf("%+v", grants)
	}
	seats, _, e := heir.Hear(through(grants[0]))
	if e != api.OK || !seats[0].Own() || !seats[0].Shelf().Same(moved[0].Shelf()) {
		t.Fatalf("Hear of a Grant: %d", e)
	}
}
