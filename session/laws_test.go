package session_test

import (
	"bytes"
	"math"
	"math/rand"
	"slices"
	"testing"

	"glebe/api"
	"glebe/point"
	"glebe/session"
	"glebe/wire"
)

// drawnNote: most often around what was noted of its client, now and then one that may not be.
func drawnNote(r *rand.Rand, m *plain) note {
	n := note{client: r.Intn(clients), a: drawnAns(r)}
	n.seq = max(1, m.last(n.client).seq+r.Intn(5)-1)
	switch r.Intn(20) {
	case 0:
		n.client = wrongClients()[r.Intn(len(wrongClients()))]
	case 1:
		n.seq = wrongSeqs()[r.Intn(len(wrongSeqs()))]
	case 2:
		n.a = wrongAnswers()[r.Intn(len(wrongAnswers()))]
	case 3:
		n.seq = 1 + r.Intn(lastSeq)>>r.Intn(41)
	}
	return n
}

// P902: drawn calls, held against a plain list of what was noted.
func TestDrawnCalls(t *testing.T) {
	seen := map[api.Errno]int{}
	for seed := range 40 {
		r := rand.New(rand.NewSource(int64(seed)))
		x, m := made(t)
		for range 200 {
			n := drawnNote(r, m)
			want := m.copyOf().note(n.client, n.seq, n.a)
			notes(t, x, m, n, want)
			seen[want]++
		}
		tells(t, x.Clone(), m)
		takes(t, x.Put())
	}
	for _, e := range []api.Errno{api.OK, api.ErrArg, api.ErrStale} {
		if seen[e] < 500 {
			t.Errorf("%d was answered %d times", e, seen[e])
		}
	}
}

// P902: drawn Looks, of Seqs all over.
func TestDrawnLooks(t *testing.T) {
	r := rand.New(rand.NewSource(1))
	seen := map[int]int{}
	for range 200 {
		x, m := drawnTable(t, r)
		for range 200 {
			client, seq := r.Intn(clients+2)-1, r.Intn(lastSeq+2)>>r.Intn(42)
			if r.Intn(3) == 0 {
				seq = m.last(client).seq
			}
			want := m.look(client, seq)
			looks(t, x, client, seq, want)
			seen[want]++
		}
	}
	for look := range 4 {
		if seen[look] < 500 {
			t.Errorf("%d was told %d times", look, seen[look])
		}
	}
}

// P903: behind Note a Seq is Again, greater ones are Fresh, lesser ones are Past.
func TestOnce(t *testing.T) {
	r := rand.New(rand.NewSource(2))
	for range 300 {
		x, m := drawnTable(t, r)
		client := r.Intn(clients)
		seq := m.last(client).seq + 1 + r.Intn(1000)>>r.Intn(11)
		if seq > lastSeq {
			continue
		}
		notes(t, x, m, note{client, seq, drawnAns(r)}, api.OK)
		looks(t, x, client, seq, session.Again)
		for range 20 {
			if below := r.Intn(seq) >> r.Intn(8); below > 0 {
				looks(t, x, client, below, session.Past)
				notes(t, x, m, note{client, below, drawnAns(r)}, api.ErrStale)
			}
			if seq < lastSeq {
				looks(t, x, client, seq+1+r.Intn(lastSeq-seq)>>r.Intn(41), session.Fresh)
			}
		}
		notes(t, x, m, note{client, seq, drawnAns(r)}, api.ErrStale)
	}
}

// P904: three tables, whichever two come first.
func TestJoinOfThree(t *testing.T) {
	r := rand.New(rand.NewSource(3))
	unlike := 0
	for range 3000 {
		x, m := drawnTable(t, r)
		y, n := drawnTable(t, r)
		z, o := drawnTable(t, r)
		one, two := x.Join(y).Join(z), x.Join(y.Join(z))
		if !one.Same(two) || !bytes.Equal(one.Put(), two.Put()) {
			t.Fatalf("of %v, %v and %v: %v and %v", m.l, n.l, o.l, one.Put(), two.Put())
		}
		tells(t, one, m.join(n).join(o))
		if !x.Join(y).Same(y.Join(x)) {
			unlike++
		}
		tells(t, x, m)
		tells(t, y, n)
		tells(t, z, o)
	}
	if unlike < 300 {
		t.Errorf("just %d had one Seq with unlike answers", unlike)
	}
}

// agreeing: a drawn table in which an answer hangs on the client and the Seq alone.
func agreeing(t *testing.T, r *rand.Rand) (*session.Table, *plain) {
	t.Helper()
	x, m := session.New(), &plain{}
	for range r.Intn(12) {
		client, seq := r.Intn(clients), 1+r.Intn(4)
		a := point.Ans{E: api.Errno(seq), Found: true, Value: string(rune('a' + client)), Ver: seq}
		notes(t, x, m, note{client, seq, a}, m.copyOf().note(client, seq, a))
	}
	return x, m
}

// P904: where Seqs that are alike have the same answers, Join is the same the other way round.
func TestJoinTheOtherWayRound(t *testing.T) {
	r := rand.New(rand.NewSource(4))
	alike := 0
	for range 1000 {
		x, m := agreeing(t, r)
		y, n := agreeing(t, r)
		if !x.Join(y).Same(y.Join(x)) || !x.Join(y).Join(x).Same(x.Join(y)) {
			t.Fatalf("of %v and %v: %v and %v", m.l, n.l, x.Join(y).Put(), y.Join(x).Put())
		}
		for client := range clients {
			if last := m.last(client); last.seq > 0 && last == n.last(client) {
				alike++
			}
		}
	}
	if alike < 300 {
		t.Errorf("just %d clients had the same Seq in both", alike)
	}
}

// P905: Take of Put is the same, with anything behind it.
func TestThereAndBack(t *testing.T) {
	r := rand.New(rand.NewSource(5))
	for range 2000 {
		x, m := drawnTable(t, r)
		behind := someText(r, r.Intn(20))
		from := wire.Open(append(x.Put(), behind...))
		y := session.Take(from)
		if !x.Same(y) || !y.Same(x) || from.Left() != len(behind) || from.Err() != api.OK {
			t.Fatalf("of %v, with %q behind: %v, Left %d, Err %d", m.l, behind, y, from.Left(), from.Err())
		}
		tells(t, y, m)
		n := drawnNote(r, m)
		notes(t, y, m.copyOf(), n, m.copyOf().note(n.client, n.seq, n.a))
		tells(t, x, m)
	}
}

// P902: Same is so just if both tell the same.
func TestDrawnSame(t *testing.T) {
	r := rand.New(rand.NewSource(6))
	same := 0
	for range 4000 {
		x, m := agreeing(t, r)
		y, n := x.Clone(), m.copyOf()
		for range r.Intn(3) {
			more := drawnNote(r, n)
			more.client = more.client & 1
			notes(t, y, n, more, n.copyOf().note(more.client, more.seq, more.a))
		}
		sames(t, x, y, m.alike(n))
		if m.alike(n) {
			same++
		}
	}
	if same < 500 || same > 3500 {
		t.Errorf("%d were the same", same)
	}
}

// someNum: a number's bytes: often at an end, now and then not just so.
func someNum(r *rand.Rand, ends ...int) []byte {
	n := ends[r.Intn(len(ends))]
	if r.Intn(3) == 0 {
		n = r.Intn(n + 1)
	}
	b := numBytes(n)
	if r.Intn(300) == 0 {
		b[len(b)-1] += 128
		b = append(b, 0)
	}
	return b
}

// someRows: bytes such as a table's, in which each field may be past its end.
func someRows(r *rand.Rand) []byte {
	var b []byte
	for range clients {
		seq := someNum(r, 0, 0, 1, 127, 128, 300, lastSeq-1, lastSeq)
		if r.Intn(60) == 0 {
			seq = someNum(r, lastSeq+1, 2*lastSeq, lastNum, lastNum+1)
		}
		b = append(b, seq...)
		if seq[0] == 0 {
			continue
		}
		a := ansBytes(drawnAns(r))
		if r.Intn(20) == 0 {
			size := r.Intn(34)
			a = slices.Concat(someNum(r, 0, 1, 255, 256), someNum(r, 0, 1, 1, 2), numBytes(size), []byte(someText(r, size)), someNum(r, 0, 1, lastSeq, lastSeq+1))
		}
		b = append(b, a...)
	}
	return b
}

// spoilt: some bytes changed, put in or taken out, or an end cut off.
func spoilt(r *rand.Rand, b []byte) []byte {
	at := r.Intn(len(b))
	switch r.Intn(6) {
	case 0:
		return b[:at]
	case 1:
		return slices.Insert(b, at, byte(r.Intn(256)))
	case 2:
		return slices.Delete(b, at, at+1)
	case 3:
		b[at] = byte(r.Intn(256)) >> r.Intn(8)
	}
	return b
}

// P902, P905: Take of drawn bytes; what is taken is put as the bytes that it was taken from.
func TestDrawnBytes(t *testing.T) {
	r := rand.New(rand.NewSource(7))
	seen := map[api.Errno]int{}
	for i := range 30000 {
		b := append(someRows(r), someText(r, r.Intn(4))...)
		if i%2 == 0 {
			b = spoilt(r, b)
		}
		if i%10 == 0 {
			b = []byte(someText(r, r.Intn(60)))
		}
		seen[takes(t, b)]++
	}
	for _, e := range []api.Errno{api.OK, api.ErrEnd, api.ErrForm} {
		if seen[e] < 2000 {
			t.Errorf("%d was told %d times", e, seen[e])
		}
	}
}

// P902, P905: each beginning of drawn tables' bytes.
func TestDrawnBeginnings(t *testing.T) {
	r := rand.New(rand.NewSource(8))
	for range 200 {
		x, _ := drawnTable(t, r)
		b := x.Put()
		for i := range b {
			if e := takes(t, b[:i]); e != api.ErrEnd {
				t.Fatalf("Take of %v: %d", b[:i], e)
			}
		}
	}
}

// P902, P905: all short bytes of small numbers, behind rows of nothing.
func TestAllShortBytes(t *testing.T) {
	small := []byte{0, 1, 2, 128}
	for i := range 1 << 16 {
		b := []byte{0, 0, 0, 0, 0, 0}
		for j := range 8 {
			b = append(b, small[i>>(2*j)&3])
		}
		takes(t, b)
	}
}

// P901: of tables that came from one another each is noted in for itself.
func TestTablesAreApart(t *testing.T) {
	for seed := range 30 {
		r := rand.New(rand.NewSource(int64(seed)))
		x, m := drawnTable(t, r)
		y, n := drawnTable(t, r)
		tables := []*session.Table{x, y, x.Clone(), x.Join(y), y.Join(x), x.Join(x), session.Take(wire.Open(x.Put()))}
		lists := []*plain{m, n, m.copyOf(), m.join(n), n.join(m), m.join(m), m.copyOf()}
		for i, z := range tables {
			for range 10 {
				more := drawnNote(r, lists[i])
				notes(t, z, lists[i], more, lists[i].copyOf().note(more.client, more.seq, more.a))
			}
			for j := range tables {
				tells(t, tables[j], lists[j])
			}
		}
	}
}

// P7: there is an answer, whatever is asked, and what is refused has changed nothing.
func TestAnything(t *testing.T) {
	numbers := []int{math.MinInt, math.MinInt + 1, -lastSeq, -1 << 32, -1, 0, 1, 7, 8, 9, 1 << 32, lastSeq, lastSeq + 1, lastNum, math.MaxInt - 1, math.MaxInt}
	x, m := made(t, full()...)
	for _, client := range numbers {
		for _, seq := range numbers {
			looks(t, x, client, seq, m.look(client, seq))
			for _, a := range append(wrongAnswers(), point.Ans{}, found("v")) {
				notes(t, x, m, note{client, seq, a}, m.copyOf().note(client, seq, a))
			}
		}
		want := m.last(client)
		lasts(t, x, client, want.seq, want.a)
	}
}

// P8: the same calls have the same answers, and looks between them change nothing.
func TestAgain(t *testing.T) {
	r, s := rand.New(rand.NewSource(9)), rand.New(rand.NewSource(9))
	x, m := made(t)
	y, n := made(t)
	for range 500 {
		one, two := drawnNote(r, m), drawnNote(s, n)
		if e, f := x.Note(one.client, one.seq, one.a), y.Note(two.client, two.seq, two.a); e != f {
			t.Fatalf("%v: %d, then %d", one, e, f)
		}
		m.note(one.client, one.seq, one.a)
		n.note(two.client, two.seq, two.a)
		y.Look(0, 1)
		y.Last(7)
		y.Put()
		y.Join(y.Clone()).Same(y)
		session.Take(wire.Open(y.Put()))
		sames(t, x, y, true)
	}
	tells(t, y, n)
}
