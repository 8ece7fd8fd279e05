package session_test

import (
	"bytes"
	"math"
	"slices"
	"strings"
	"testing"

	"glebe/api"
	"glebe/point"
	"glebe/session"
	"glebe/wire"
)

// The chapter's example.
func TestExample(t *testing.T) {
	x := session.New()
	if e := x.Note(1, 5, point.Ans{}); e != api.OK {
		t.Errorf("Note: %d", e)
	}
	if n := x.Look(1, 4); n != session.Past {
		t.Errorf("Look: %d", n)
	}
}

// The constants are as the chapter writes them.
func TestConstants(t *testing.T) {
	if session.Fresh != 1 || session.Again != 2 || session.Past != 3 {
		t.Errorf("%d %d %d", session.Fresh, session.Again, session.Past)
	}
}

// nobodys: tables that nobody made.
func nobodys() []*session.Table {
	var none *session.Table
	return []*session.Table{none, {}, new(session.Table)}
}

// isNone: each call of one table answers as of none.
func isNone(t *testing.T, x *session.Table) {
	t.Helper()
	for _, client := range []int{-1, 0, 3, 7, 8, math.MinInt, math.MaxInt} {
		for _, seq := range []int{-1, 0, 1, lastSeq, lastSeq + 1, math.MinInt, math.MaxInt} {
			if n := x.Look(client, seq); n != 0 {
				t.Errorf("Look(%d, %d) = %d", client, seq, n)
			}
			for _, a := range []point.Ans{{}, found("v"), {E: -1}} {
				if e := x.Note(client, seq, a); e != api.ErrArg {
					t.Errorf("Note(%d, %d, %v) = %d", client, seq, a, e)
				}
			}
		}
		if seq, a := x.Last(client); seq != 0 || a != (point.Ans{}) {
			t.Errorf("Last(%d) = %d, %v", client, seq, a)
		}
	}
	if b := x.Put(); len(b) != 0 {
		t.Errorf("Put() = %v", b)
	}
	if c := x.Clone(); c != nil {
		t.Errorf("Clone() = %v", c)
	}
}

// P901: of a nil table, and one that nobody made, alone and with another one.
func TestOfNone(t *testing.T) {
	for _, x := range nobodys() {
		isNone(t, x)
		for _, l := range [][]note{nil, full()} {
			some, m := made(t, l...)
			if x.Same(some) || some.Same(x) || x.Join(some) != nil || some.Join(x) != nil {
				t.Errorf("with a table of %v", l)
			}
			tells(t, some, m)
		}
		for _, y := range nobodys() {
			if x.Same(y) || x.Join(y) != nil || x.Same(x) || x.Join(x) != nil {
				t.Errorf("two that nobody made")
			}
		}
		isNone(t, x)
	}
}

// P902: New, each time another one.
func TestNew(t *testing.T) {
	x, m := made(t)
	y, n := made(t)
	tells(t, x, m)
	notes(t, x, m, note{3, 3, found("v")}, api.OK)
	tells(t, y, n)
	tells(t, session.New(), &plain{})
}

// looks: what Look has to answer.
func looks(t *testing.T, x *session.Table, client, seq, want int) {
	t.Helper()
	if n := x.Look(client, seq); n != want {
		t.Errorf("Look(%d, %d) = %d, want %d", client, seq, n, want)
	}
}

// P902: Look of a client of whom nothing was noted, and of no client, with Seqs at their ends.
func TestLookOfNothing(t *testing.T) {
	empty, _ := made(t)
	others, _ := made(t, full()[1:7]...)
	for _, x := range []*session.Table{empty, others} {
		for _, client := range []int{0, 7} {
			for _, seq := range []int{1, 2, 1 << 20, lastSeq - 1, lastSeq} {
				looks(t, x, client, seq, session.Fresh)
			}
			for _, seq := range wrongSeqs() {
				looks(t, x, client, seq, 0)
			}
		}
		for _, client := range wrongClients() {
			for _, seq := range []int{-1, 0, 1, 2, lastSeq, lastSeq + 1} {
				looks(t, x, client, seq, 0)
			}
		}
	}
}

func wrongClients() []int {
	return []int{-1, -2, 8, 9, 15, 16, 256, 1 << 32, math.MinInt, math.MinInt + 1, math.MaxInt}
}

func wrongSeqs() []int {
	return []int{-1, 0, -2, lastSeq + 1, -lastSeq, 2 * lastSeq, lastNum, math.MinInt, math.MaxInt}
}

// P902: Look of a Seq below, at and above what was noted; of other clients there is nothing.
func TestLook(t *testing.T) {
	for _, client := range []int{0, 1, 6, 7} {
		x, m := made(t, note{client, 100, found("v")})
		for seq := 1; seq < 100; seq++ {
			looks(t, x, client, seq, session.Past)
		}
		looks(t, x, client, 100, session.Again)
		for _, seq := range []int{101, 102, lastSeq} {
			looks(t, x, client, seq, session.Fresh)
		}
		for _, seq := range wrongSeqs() {
			looks(t, x, client, seq, 0)
		}
		looks(t, x, client^1, 100, session.Fresh)
		looks(t, x, client^1, 1, session.Fresh)
		tells(t, x, m)
	}
}

// P902: Look and Note, where the least Seq was noted, and where the greatest one was.
func TestSeqsAtTheirEnds(t *testing.T) {
	x, m := made(t, note{7, 1, found("a")})
	looks(t, x, 7, 1, session.Again)
	looks(t, x, 7, 2, session.Fresh)
	looks(t, x, 7, 0, 0)
	notes(t, x, m, note{7, 1, found("b")}, api.ErrStale)
	notes(t, x, m, note{7, lastSeq, found("c")}, api.OK)
	looks(t, x, 7, lastSeq, session.Again)
	looks(t, x, 7, lastSeq-1, session.Past)
	looks(t, x, 7, lastSeq+1, 0)
	notes(t, x, m, note{7, lastSeq, found("d")}, api.ErrStale)
	notes(t, x, m, note{7, lastSeq + 1, found("e")}, api.ErrArg)
}

// P902: Note of a Seq that is fresh, again and past.
func TestNote(t *testing.T) {
	for client := range clients {
		x, m := made(t, note{(client + 1) % clients, 50, found("other")})
		notes(t, x, m, note{client, 4, found("v")}, api.OK)
		notes(t, x, m, note{client, 4, found("v")}, api.ErrStale)
		notes(t, x, m, note{client, 4, found("w")}, api.ErrStale)
		notes(t, x, m, note{client, 4, point.Ans{}}, api.ErrStale)
		notes(t, x, m, note{client, 3, found("w")}, api.ErrStale)
		notes(t, x, m, note{client, 1, found("w")}, api.ErrStale)
		notes(t, x, m, note{client, 5, point.Ans{E: api.ErrFull}}, api.OK)
		notes(t, x, m, note{client, 4, found("v")}, api.ErrStale)
		notes(t, x, m, note{client, 900, point.Ans{}}, api.OK)
		if seq, a := x.Last(client); seq != 900 || a != (point.Ans{}) {
			t.Errorf("Last(%d) = %d, %v", client, seq, a)
		}
	}
}

// wrongAnswers: none of them may be.
func wrongAnswers() []point.Ans {
	return []point.Ans{
		{E: -1}, {E: 256}, {E: math.MinInt}, {E: math.MaxInt},
		{Value: "v"}, {Ver: 1}, {Value: "v", Ver: 1}, {E: api.ErrFull, Ver: 2},
		{Found: true, Value: strings.Repeat("v", 33), Ver: 1}, {Found: true, Value: strings.Repeat("v", 1<<17), Ver: 1},
		{Found: true, Ver: -1}, {Found: true, Ver: lastSeq + 1}, {Found: true, Ver: math.MinInt}, {Found: true, Ver: math.MaxInt},
	}
}

// P902: Note of an answer that may not be, of a Seq that is fresh, again and past: ErrArg, which is named first.
func TestNoteOfWrongAnswers(t *testing.T) {
	for _, client := range []int{0, 5, 7} {
		for _, l := range [][]note{nil, {{client, 3, found("v")}}} {
			x, m := made(t, l...)
			for _, a := range wrongAnswers() {
				for _, seq := range []int{1, 2, 3, 4, lastSeq} {
					notes(t, x, m, note{client, seq, a}, api.ErrArg)
				}
			}
		}
	}
}

// P902: Note of a wrong client, of a wrong Seq, and of a wrong client, Seq and answer at once.
func TestNoteOfWrongClientsAndSeqs(t *testing.T) {
	for _, l := range [][]note{nil, full()} {
		x, m := made(t, l...)
		for _, client := range wrongClients() {
			for _, seq := range []int{1, 2, lastSeq, -1, 0, lastSeq + 1} {
				notes(t, x, m, note{client, seq, found("v")}, api.ErrArg)
				notes(t, x, m, note{client, seq, point.Ans{E: -1}}, api.ErrArg)
			}
		}
		for _, seq := range wrongSeqs() {
			for client := range clients {
				notes(t, x, m, note{client, seq, found("v")}, api.ErrArg)
				notes(t, x, m, note{client, seq, point.Ans{Ver: 1}}, api.ErrArg)
			}
		}
	}
}

// lasts: what Last has to answer.
func lasts(t *testing.T, x *session.Table, client, seq int, a point.Ans) {
	t.Helper()
	if s, b := x.Last(client); s != seq || b != a {
		t.Errorf("Last(%d) = %d, %v, want %d, %v", client, s, b, seq, a)
	}
}

// P902: Last of a client of whom nothing, one and several were noted, and of no client.
func TestLast(t *testing.T) {
	x, _ := made(t, note{0, 9, found("one")}, note{7, 2, found("a")}, note{7, 4, point.Ans{}}, note{7, 6, found("c")})
	lasts(t, x, 0, 9, found("one"))
	lasts(t, x, 7, 6, found("c"))
	for client := 1; client < 7; client++ {
		lasts(t, x, client, 0, point.Ans{})
	}
	for _, client := range wrongClients() {
		lasts(t, x, client, 0, point.Ans{})
	}
}

// joins: both ways, and both tables stay; answers the table of the first way.
func joins(t *testing.T, x *session.Table, m *plain, y *session.Table, n *plain) *session.Table {
	t.Helper()
	joined := x.Join(y)
	tells(t, joined, m.join(n))
	tells(t, y.Join(x), n.join(m))
	tells(t, x, m)
	tells(t, y, n)
	return joined
}

// P902: Join of two empty tables, of an empty and a full one, and of a table with itself.
func TestJoinOfEmptyAndFull(t *testing.T) {
	empty, none := made(t)
	other, nothing := made(t)
	some, m := made(t, full()...)
	joins(t, empty, none, other, nothing)
	joins(t, empty, none, some, m)
	joins(t, empty, none, empty, none)
	joined := joins(t, some, m, some, m)
	if !joined.Same(some) || !some.Join(empty).Same(some) || !empty.Join(some).Same(some) || !empty.Join(other).Same(empty) {
		t.Errorf("Join with nothing, or with itself, is another table")
	}
}

// P902: Join of tables with unlike Seqs: of each client the greater one, with its answer.
func TestJoinOfUnlikeSeqs(t *testing.T) {
	x, m := made(t, note{0, 1, found("a")}, note{1, 9, found("b")}, note{3, 128, found("d")}, note{7, lastSeq, point.Ans{}})
	y, n := made(t, note{0, 2, point.Ans{}}, note{1, 8, found("f")}, note{3, 127, found("g")}, note{6, 1, found("h")}, note{7, 1, found("i")})
	for _, joined := range []*session.Table{joins(t, x, m, y, n), joins(t, y, n, x, m)} {
		lasts(t, joined, 0, 2, point.Ans{})
		lasts(t, joined, 1, 9, found("b"))
		lasts(t, joined, 2, 0, point.Ans{})
		lasts(t, joined, 3, 128, found("d"))
		lasts(t, joined, 6, 1, found("h"))
		lasts(t, joined, 7, lastSeq, point.Ans{})
	}
}

// P902: Join of tables with the same Seq and the same answer; with the same Seq and unlike answers it is the first table's.
func TestJoinOfOneSeq(t *testing.T) {
	x, m := made(t, note{2, 5, found("same")}, note{7, 5, found("x")})
	y, n := made(t, note{2, 5, found("same")}, note{7, 5, point.Ans{E: api.ErrFull}})
	one, two := joins(t, x, m, y, n), joins(t, y, n, x, m)
	lasts(t, one, 2, 5, found("same"))
	lasts(t, two, 2, 5, found("same"))
	lasts(t, one, 7, 5, found("x"))
	lasts(t, two, 7, 5, point.Ans{E: api.ErrFull})
}

// P901, P902: what is noted in a joined table, or in one that it came from, is not in the others.
func TestJoinIsApart(t *testing.T) {
	x, m := made(t, note{0, 1, found("a")}, note{1, 1, found("b")})
	y, n := made(t, note{1, 2, found("c")}, note{2, 2, found("d")})
	joined, o := x.Join(y), m.join(n)
	notes(t, x, m, note{0, 5, found("x")}, api.OK)
	notes(t, y, n, note{1, 6, found("y")}, api.OK)
	tells(t, joined, o)
	notes(t, joined, o, note{1, 3, found("joined")}, api.OK)
	notes(t, joined, o, note{7, 3, found("joined")}, api.OK)
	tells(t, x, m)
	tells(t, y, n)
	self, p := x.Join(x), m.join(m)
	notes(t, x, m, note{4, 1, found("x")}, api.OK)
	tells(t, self, p)
	notes(t, self, p, note{0, 6, found("self")}, api.OK)
	tells(t, x, m)
}

// putAs: its bytes, written out, and the same table is taken from them.
func putAs(t *testing.T, want string, l ...note) {
	t.Helper()
	x, _ := made(t, l...)
	if b := x.Put(); string(b) != want {
		t.Errorf("of %v: Put() = %v, want %v", l, b, []byte(want))
	}
	for _, behind := range []string{"", "\x00", "\xff", "\x01\x00\x00\x00\x00", want} {
		r := wire.Open([]byte(want + behind))
		if y := session.Take(r); !x.Same(y) || r.Err() != api.OK || r.Left() != len(behind) {
			t.Errorf("Take of %q, with %q behind: %v, Err %d, Left %d", want, behind, y, r.Err(), r.Left())
		}
	}
}

const noRows = "\x00\x00\x00\x00\x00\x00\x00\x00"

// P902: Put and Take of nothing, of one client, of the last one, and of all.
func TestPutAndTake(t *testing.T) {
	putAs(t, noRows)
	putAs(t, "\x01\x00\x00\x00\x00"+noRows[1:], note{0, 1, point.Ans{}})
	putAs(t, noRows[5:]+"\xac\x02\x07\x01\x01v\x81\x01"+noRows[4:], note{3, 300, point.Ans{E: api.ErrFull, Found: true, Value: "v", Ver: 129}})
	putAs(t, noRows[1:]+"\x05\x00\x01\x02ab\x03", note{7, 4, point.Ans{}}, note{7, 5, found("ab")})
	long := strings.Repeat("v", 32)
	last := "\x80\x80\x80\x80\x80\x20"
	putAs(t, noRows[1:]+last+"\xff\x01\x01\x20"+long+last, note{7, lastSeq, point.Ans{E: 255, Found: true, Value: long, Ver: lastSeq}})
	var all []note
	var b string
	for client := range clients {
		all = append(all, note{client, client + 1, found("v")})
		b += string(rune(client+1)) + "\x00\x01\x01v\x02"
	}
	putAs(t, b, all...)
}

// refuses: no table, and the reader has the error.
func refuses(t *testing.T, b string, want api.Errno) {
	t.Helper()
	r := wire.Open([]byte(b))
	if x := session.Take(r); x != nil || r.Err() != want || r.Left() != 0 || r.Done() != want {
		t.Errorf("Take of %v: %v, Err %d, Left %d, want %d", []byte(b), x, r.Err(), r.Left(), want)
	}
}

// P902: each beginning of a table's bytes is ErrEnd.
func TestTakeOfBeginnings(t *testing.T) {
	for _, l := range [][]note{nil, full()[:1], full()[7:], full()} {
		x, _ := made(t, l...)
		b := x.Put()
		for i := range b {
			refuses(t, string(b[:i]), api.ErrEnd)
			takes(t, b[:i])
		}
	}
}

// P902: a Seq above MaxSeq is ErrForm at that Seq, of whichever client, whatever stands behind it, or nothing.
func TestTakeOfSeqsAboveMaxSeq(t *testing.T) {
	for client := range clients {
		for _, seq := range []int{lastSeq + 1, lastSeq + 127, 2 * lastSeq, lastNum} {
			b := noRows[:client] + string(numBytes(seq))
			refuses(t, b, api.ErrForm)
			refuses(t, b+"\x00", api.ErrForm)
			refuses(t, b+"\x00\x00\x00\x00"+noRows, api.ErrForm)
			refuses(t, b+"\x00\x02\xff", api.ErrForm)
			refuses(t, b[:len(b)-1], api.ErrEnd)
		}
		for _, seq := range []string{"\x81\x80\x80\x80\x80\x80\x80\x10", "\xff\xff\xff\xff\xff\xff\xff\x7f", "\xff\xff\xff\xff\xff\xff\xff\xff\x01"} {
			refuses(t, noRows[:client]+seq+noRows+noRows, api.ErrForm)
		}
	}
}

// P902: a number of more bytes than it needs is ErrForm, of a Seq and in an answer; a Seq of 0 that has an answer behind it is of the next clients.
func TestTakeOfNumbersThatAreNotJustSo(t *testing.T) {
	for client := range clients {
		for _, wrong := range []string{"\x80\x00", "\x81\x00", "\xac\x82\x00", "\x05\x80\x00\x00\x00", "\x05\x00\x80\x00\x00\x00", "\x05\x00\x81\x00\x00\x00", "\x05\x00\x00\x80\x00\x00", "\x05\x00\x00\x00\x80\x00", "\x05\x00\x01\x81\x00v\x00"} {
			refuses(t, noRows[:client]+wrong+noRows+noRows, api.ErrForm)
		}
	}
	x := session.Take(wire.Open([]byte("\x00\x05\x00\x00\x00\x00" + noRows[2:])))
	if y, _ := made(t, note{1, 5, point.Ans{}}); !y.Same(x) {
		t.Errorf("a Seq of 0 was taken as %v", x)
	}
}

// P902: an answer that may not be is ErrForm, of whichever client.
func TestTakeOfWrongAnswers(t *testing.T) {
	wrong := []string{
		"\x80\x02\x00\x00\x00",               // E 256
		"\x00\x02\x00\x00",                   // Found 2
		"\x00\x00\x01v\x00",                  // a Value where nothing was found
		"\x00\x00\x00\x01",                   // a Ver likewise
		"\x00\x01\x21",                       // a Value of 33 bytes, at its length
		"\x00\x01\x00\x81\x80\x80\x80\x80 ",  // Ver MaxSeq + 1
		"\x00\x01\x01v\x80\x80\x80\x80\x80@", // Ver 2 MaxSeq
	}
	for client := range clients {
		for _, a := range wrong {
			refuses(t, noRows[:client]+"\x05"+a, api.ErrForm)
			refuses(t, noRows[:client]+"\x05"+a+noRows, api.ErrForm)
		}
	}
}

// P901, P902: of no reader, one that nobody made, and one that has an error already.
func TestTakeOfReadersWithAnError(t *testing.T) {
	for _, r := range []*wire.Reader{nil, new(wire.Reader), {}} {
		if x := session.Take(r); x != nil || r.Err() != api.ErrArg || r.Left() != 0 {
			t.Errorf("%v, Err %d", x, r.Err())
		}
	}
	some, _ := made(t, full()...)
	for _, e := range []api.Errno{api.ErrArg, api.ErrEnd, api.ErrForm, api.ErrSum, api.ErrHop, -1} {
		for _, b := range []string{"", noRows, string(some.Put()), "\x80\x00"} {
			r := wire.Open([]byte(b))
			r.Fail(e)
			if x := session.Take(r); x != nil || r.Err() != e || r.Left() != 0 {
				t.Errorf("with error %d, of %q: %v, Err %d", e, b, x, r.Err())
			}
		}
	}
}

// P902: where Take leaves the reader: behind the table, of which there may be more, and other things.
func TestOneBehindTheOther(t *testing.T) {
	x, m := made(t, full()...)
	y, n := made(t, note{7, 3, found("v")})
	b := slices.Concat([]byte{42}, x.Put(), y.Put(), x.Put(), []byte{43, 200})
	r := wire.Open(b)
	if r.Num() != 42 {
		t.Errorf("ahead of the tables")
	}
	tells(t, session.Take(r), m)
	tells(t, session.Take(r), n)
	tells(t, session.Take(r), m)
	if n := r.Num(); n != 43 || r.Left() != 1 || r.Err() != api.OK {
		t.Errorf("behind the tables: %d, Left %d, Err %d", n, r.Left(), r.Err())
	}
	if z := session.Take(r); z != nil || r.Err() != api.ErrEnd {
		t.Errorf("at the end: %v, Err %d", z, r.Err())
	}
}

// sames: Same is so, both ways.
func sames(t *testing.T, x, y *session.Table, want bool) {
	t.Helper()
	if x.Same(y) != want || y.Same(x) != want {
		t.Errorf("of %v and %v: Same is not %v", x.Put(), y.Put(), want)
	}
}

// P902: Same of tables that differ in nothing, however they came to it.
func TestSame(t *testing.T) {
	empty, _ := made(t)
	other, _ := made(t)
	x, _ := made(t, full()...)
	backwards := full()
	slices.Reverse(backwards)
	y, _ := made(t, backwards...)
	taken := session.Take(wire.Open(x.Put()))
	for _, pair := range [][2]*session.Table{{empty, empty}, {empty, other}, {x, x}, {x, y}, {x, taken}, {x, x.Clone()}, {x, x.Join(empty)}, {empty, session.Take(wire.Open([]byte(noRows)))}} {
		sames(t, pair[0], pair[1], true)
	}
	sames(t, x, empty, false)
	y.Note(0, 1, found("stale"))
	y.Note(-1, 1, found("wrong"))
	sames(t, x, y, true)
	one, _ := made(t, note{2, 1, point.Ans{}}, note{2, 9, found("v")})
	two, _ := made(t, note{2, 9, found("v")})
	sames(t, one, two, true)
}

// P902: Same of tables that differ in one Seq, in one answer, in which client was noted.
func TestNotSame(t *testing.T) {
	for i, n := range full() {
		x, _ := made(t, full()...)
		without, _ := made(t, slices.Delete(full(), i, i+1)...)
		sames(t, x, without, false)
		var others []note
		for _, a := range []point.Ans{{E: n.a.E ^ 1, Found: n.a.Found, Value: n.a.Value, Ver: n.a.Ver}, found(n.a.Value + "x"), {E: n.a.E, Found: true, Value: n.a.Value, Ver: n.a.Ver ^ 1}, {E: n.a.E, Found: !n.a.Found}} {
			if mayAnswer(a) && a != n.a {
				others = append(others, note{n.client, n.seq, a})
			}
		}
		for _, seq := range []int{n.seq - 1, n.seq + 1, n.seq ^ 1<<39} {
			if seq > 0 && seq <= lastSeq {
				others = append(others, note{n.client, seq, n.a})
			}
		}
		if len(others) < 3 {
			t.Errorf("of client %d there are just %v", i, others)
		}
		for _, o := range others {
			l := full()
			l[i] = o
			y, _ := made(t, l...)
			sames(t, x, y, false)
		}
		alone, _ := made(t, n)
		beside, _ := made(t, note{(n.client + 1) % clients, n.seq, n.a})
		nobody, _ := made(t)
		sames(t, alone, beside, false)
		sames(t, alone, nobody, false)
	}
}

// P901, P902: a Clone tells the same; what is noted in it is not in the other one, and the other way round.
func TestClone(t *testing.T) {
	for _, l := range [][]note{nil, full()[:1], full()} {
		x, m := made(t, l...)
		c, o := x.Clone(), m.copyOf()
		tells(t, c, o)
		sames(t, x, c, true)
		notes(t, c, o, note{0, 7, found("clone")}, api.OK)
		tells(t, x, m)
		sames(t, x, c, false)
		notes(t, x, m, note{0, 8, found("own")}, api.OK)
		notes(t, x, m, note{7, 1 << 30, found("own")}, api.OK)
		tells(t, c, o)
		tells(t, c.Clone(), o)
	}
}

// P901: what Put answers is new memory, its room, too; what was taken does not change with the bytes.
func TestAnswersAreApart(t *testing.T) {
	fill := func(b []byte) {
		for i := range b[:cap(b)] {
			b[:cap(b)][i] = 0x55
		}
	}
	for _, l := range [][]note{nil, full()} {
		x, m := made(t, l...)
		one, two := x.Put(), x.Put()
		fill(one)
		if !bytes.Equal(two, m.bytes()) {
			t.Errorf("two answers share memory")
		}
		y := session.Take(wire.Open(two))
		fill(two)
		tells(t, x, m)
		tells(t, y, m)
	}
}
