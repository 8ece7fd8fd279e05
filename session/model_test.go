package session_test

import (
	"bytes"
	"math/rand"
	"slices"
	"strings"
	"testing"

	"glebe/api"
	"glebe/point"
	"glebe/session"
	"glebe/wire"
)

// A table is to the model a plain list of what was noted, in the order in which it came; what is asked of it is looked for in the whole list.
type plain struct {
	l []note
}

type note struct {
	client, seq int
	a           point.Ans
}

const (
	clients = 8
	lastSeq = 1099511627776
	lastNum = 9007199254740992
)

// mayAnswer: by chapter 7's words.
func mayAnswer(a point.Ans) bool {
	if !a.Found && (a.Value != "" || a.Ver != 0) {
		return false
	}
	return a.E >= 0 && a.E <= 255 && len(a.Value) <= 32 && a.Ver >= 0 && a.Ver <= lastSeq
}

// last: what was noted of the client with the greatest Seq; of two of one Seq the one that came first.
func (m *plain) last(client int) note {
	var last note
	for _, n := range m.l {
		if n.client == client && n.seq > last.seq {
			last = n
		}
	}
	return last
}

func (m *plain) look(client, seq int) int {
	if client < 0 || client >= clients || seq < 1 || seq > lastSeq {
		return 0
	}
	switch noted := m.last(client).seq; {
	case seq > noted:
		return session.Fresh
	case seq < noted:
		return session.Past
	}
	return session.Again
}

func (m *plain) note(client, seq int, a point.Ans) api.Errno {
	look := m.look(client, seq)
	if look == 0 || !mayAnswer(a) {
		return api.ErrArg
	}
	if look != session.Fresh {
		return api.ErrStale
	}
	m.l = append(m.l, note{client, seq, a})
	return api.OK
}

// join: one list behind the other.
func (m *plain) join(o *plain) *plain { return &plain{slices.Concat(m.l, o.l)} }

func (m *plain) copyOf() *plain { return &plain{slices.Clone(m.l)} }

// alike: do both tell the same of each client?
func (m *plain) alike(o *plain) bool {
	for client := range clients {
		if m.last(client) != o.last(client) {
			return false
		}
	}
	return true
}

// numBytes: a number as chapter 1 writes it.
func numBytes(n int) []byte {
	var b []byte
	for n > 127 {
		b = append(b, byte(n%128+128))
		n /= 128
	}
	return append(b, byte(n))
}

// ansBytes: an answer as chapter 7 writes it.
func ansBytes(a point.Ans) []byte {
	found := 0
	if a.Found {
		found = 1
	}
	return slices.Concat(numBytes(int(a.E)), numBytes(found), numBytes(len(a.Value)), []byte(a.Value), numBytes(a.Ver))
}

func (m *plain) bytes() []byte {
	var b []byte
	for client := range clients {
		last := m.last(client)
		b = append(b, numBytes(last.seq)...)
		if last.seq != 0 {
			b = append(b, ansBytes(last.a)...)
		}
	}
	return b
}

// reading: bytes that are still to come, and the first fault, behind which none are.
type reading struct {
	rest []byte
	e    api.Errno
}

func (x *reading) fault(e api.Errno) {
	if x.e == api.OK {
		x.rest, x.e = nil, e
	}
}

func (x *reading) num() int {
	n := 0
	for i := range 8 {
		if i == len(x.rest) {
			x.fault(api.ErrEnd)
			return 0
		}
		c := x.rest[i]
		n += int(c%128) << (7 * i)
		if n > lastNum || c == 0 && i > 0 {
			break
		}
		if c < 128 {
			x.rest = x.rest[i+1:]
			return n
		}
	}
	x.fault(api.ErrForm)
	return 0
}

// text: of at most 32 bytes.
func (x *reading) text() string {
	n := x.num()
	if n > 32 {
		x.fault(api.ErrForm)
		return ""
	}
	if n > len(x.rest) {
		x.fault(api.ErrEnd)
		return ""
	}
	s := string(x.rest[:n])
	x.rest = x.rest[n:]
	return s
}

func (x *reading) ans() point.Ans {
	e, found := x.num(), x.num()
	a := point.Ans{E: api.Errno(e), Found: found == 1, Value: x.text(), Ver: x.num()}
	if found > 1 || !mayAnswer(a) {
		x.fault(api.ErrForm)
	}
	return a
}

// read: what the chapter's words say of a Take of these bytes: the list (nil with an error), how many bytes are left, and the reader's error.
func read(b []byte) (*plain, int, api.Errno) {
	m, x := &plain{}, &reading{rest: b}
	for client := range clients {
		seq := x.num()
		if seq > lastSeq {
			x.fault(api.ErrForm)
		}
		if x.e == api.OK && seq > 0 {
			m.l = append(m.l, note{client, seq, x.ans()})
		}
	}
	if x.e != api.OK {
		return nil, 0, x.e
	}
	return m, len(x.rest), api.OK
}

// seqsOf: the edges that the chapter names, and what lies around what was noted of the client.
func (m *plain) seqsOf(client int) []int {
	noted := m.last(client).seq
	return []int{-1, 0, 1, 2, noted - 1, noted, noted + 1, lastSeq - 1, lastSeq, lastSeq + 1}
}

// tells: the table tells what the list tells.
func tells(t *testing.T, x *session.Table, m *plain) {
	t.Helper()
	for client := -1; client <= clients; client++ {
		want := m.last(client)
		if seq, a := x.Last(client); seq != want.seq || a != want.a {
			t.Fatalf("of %v: Last(%d) = %d, %v", m.l, client, seq, a)
		}
		for _, seq := range m.seqsOf(client) {
			if got, want := x.Look(client, seq), m.look(client, seq); got != want {
				t.Fatalf("of %v: Look(%d, %d) = %d, want %d", m.l, client, seq, got, want)
			}
		}
	}
	if b, want := x.Put(), m.bytes(); !bytes.Equal(b, want) {
		t.Fatalf("of %v: Put() = %v, want %v", m.l, b, want)
	}
}

// takes: Take of these bytes, and where it leaves the reader, are as the chapter says.
func takes(t *testing.T, b []byte) api.Errno {
	t.Helper()
	m, left, e := read(b)
	r := wire.Open(b)
	x := session.Take(r)
	if r.Err() != e || r.Left() != left || (x == nil) != (e != api.OK) {
		t.Fatalf("Take of %v: %v, Err %d, Left %d, want %d, %d", b, x, r.Err(), r.Left(), e, left)
	}
	if e != api.OK {
		return e
	}
	tells(t, x, m)
	if back := x.Put(); !bytes.Equal(back, b[:len(b)-left]) {
		t.Fatalf("what was taken from %v is put as %v", b, back)
	}
	return api.OK
}

// notes: Note is answered so, by the list as well, and does the same to both.
func notes(t *testing.T, x *session.Table, m *plain, n note, want api.Errno) {
	t.Helper()
	was := m.copyOf()
	if e := m.note(n.client, n.seq, n.a); e != want {
		t.Fatalf("of the list %v: Note of %v: %d, want %d", was.l, n, e, want)
	}
	if e := x.Note(n.client, n.seq, n.a); e != want {
		t.Fatalf("of %v: Note of %v: %d, want %d", was.l, n, e, want)
	}
	tells(t, x, m)
}

// made: a table of these, each of which is fresh, and the list of the same.
func made(t *testing.T, l ...note) (*session.Table, *plain) {
	t.Helper()
	x, m := session.New(), &plain{}
	for _, n := range l {
		notes(t, x, m, n, api.OK)
	}
	return x, m
}

// found: an answer that may be.
func found(value string) point.Ans { return point.Ans{Found: true, Value: value, Ver: 1 + len(value)} }

// full: of each client something, of some the greatest that may be.
func full() []note {
	return []note{
		{0, 1, point.Ans{}},
		{1, 127, found("b")},
		{2, 128, point.Ans{E: api.ErrFull}},
		{3, 1 << 20, point.Ans{E: 255}},
		{4, lastSeq - 1, found("")},
		{5, lastSeq, point.Ans{E: 255, Found: true, Value: strings.Repeat("\xff", 32), Ver: lastSeq}},
		{6, 2, point.Ans{Found: true}},
		{7, 300, found("\x00")},
	}
}

func someText(r *rand.Rand, n int) string {
	b := make([]byte, n)
	r.Read(b)
	return string(b)
}

// drawnAns: one that may be.
func drawnAns(r *rand.Rand) point.Ans {
	a := point.Ans{E: api.Errno(r.Intn(256))}
	if r.Intn(3) > 0 {
		a = point.Ans{E: a.E >> r.Intn(9), Found: true, Value: someText(r, r.Intn(33)), Ver: r.Intn(lastSeq+1) >> r.Intn(41)}
	}
	return a
}

// drawnTable: of some clients, of few Seqs, so that two tables often have the same ones.
func drawnTable(t *testing.T, r *rand.Rand) (*session.Table, *plain) {
	t.Helper()
	x, m := session.New(), &plain{}
	for range r.Intn(12) {
		n := note{r.Intn(clients), 1 + r.Intn(4), drawnAns(r)}
		if r.Intn(8) == 0 {
			n.seq = lastSeq >> r.Intn(41)
		}
		if e, want := x.Note(n.client, n.seq, n.a), m.note(n.client, n.seq, n.a); e != want {
			t.Fatalf("of %v: Note of %v: %d, want %d", m.l, n, e, want)
		}
	}
	tells(t, x, m)
	return x, m
}
