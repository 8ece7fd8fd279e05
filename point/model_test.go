package point_test

import (
	"bytes"
	"math/rand"
	"slices"
	"strings"

	"glebe/api"
	"glebe/point"
	"glebe/wire"
)

// A record, a call or an answer is to the model a list of fields, each a number or a text, in the order of its bytes.

// A field: its number, or its text.
type field struct {
	n int
	s string
}

// A part: what a field is, and how great its number, or how long its text, may be.
type part struct {
	text        bool
	least, most int
}

// A thing: one of the three, with its calls.
type thing struct {
	name  string
	parts []part
	fits  func([]field) bool // of fields that are within their parts' bounds
	right func([]field) bool
	put   func([]field) ([]byte, api.Errno)
	take  func(*wire.Reader) []field
}

const (
	lastCell = 65535
	lastSeq  = 1099511627776
	mostNum  = 9007199254740992
)

func num(least, most int) part { return part{least: least, most: most} }

func text(least, most int) part { return part{text: true, least: least, most: most} }

// always: where no field hangs on another one.
func always(l []field) bool { return true }

func recOf(l []field) point.Rec {
	return point.Rec{At: api.Point{X: l[0].n, Y: l[1].n}, Key: l[2].s, Value: l[3].s, Ver: l[4].n}
}

func opOf(l []field) point.Op {
	return point.Op{Kind: l[0].n, At: api.Point{X: l[1].n, Y: l[2].n}, Key: l[3].s, Value: l[4].s, Client: l[5].n, Seq: l[6].n}
}

// ansOf: of any Found but 0 and 1 there is no answer.
func ansOf(l []field) point.Ans {
	return point.Ans{E: api.Errno(l[0].n), Found: l[1].n == 1, Value: l[2].s, Ver: l[3].n}
}

func recFields(r point.Rec) []field {
	return []field{{n: r.At.X}, {n: r.At.Y}, {s: r.Key}, {s: r.Value}, {n: r.Ver}}
}

func opFields(o point.Op) []field {
	return []field{{n: o.Kind}, {n: o.At.X}, {n: o.At.Y}, {s: o.Key}, {s: o.Value}, {n: o.Client}, {n: o.Seq}}
}

func ansFields(a point.Ans) []field {
	found := 0
	if a.Found {
		found = 1
	}
	return []field{{n: int(a.E)}, {n: found}, {s: a.Value}, {n: a.Ver}}
}

func recThing() thing {
	return thing{
		name:  "record",
		parts: []part{num(0, lastCell), num(0, lastCell), text(1, 16), text(0, 32), num(1, lastSeq)},
		fits:  always,
		right: func(l []field) bool { return point.RightRec(recOf(l)) },
		put:   func(l []field) ([]byte, api.Errno) { return point.PutRec(recOf(l)) },
		take:  func(r *wire.Reader) []field { return recFields(point.TakeRec(r)) },
	}
}

func opThing() thing {
	return thing{
		name:  "call",
		parts: []part{num(1, 3), num(0, lastCell), num(0, lastCell), text(1, 16), text(0, 32), num(0, 7), num(1, lastSeq)},
		fits:  func(l []field) bool { return l[0].n == 2 || l[4].s == "" },
		right: func(l []field) bool { return point.RightOp(opOf(l)) },
		put:   func(l []field) ([]byte, api.Errno) { return point.PutOp(opOf(l)) },
		take:  func(r *wire.Reader) []field { return opFields(point.TakeOp(r)) },
	}
}

func ansThing() thing {
	return thing{
		name:  "answer",
		parts: []part{num(0, 255), num(0, 1), text(0, 32), num(0, lastSeq)},
		fits:  func(l []field) bool { return l[1].n == 1 || l[2].s == "" && l[3].n == 0 },
		right: func(l []field) bool { return point.RightAns(ansOf(l)) },
		put:   func(l []field) ([]byte, api.Errno) { return point.PutAns(ansOf(l)) },
		take:  func(r *wire.Reader) []field { return ansFields(point.TakeAns(r)) },
	}
}

func things() []thing { return []thing{recThing(), opThing(), ansThing()} }

// none: fields that are all zero.
func (x thing) none() []field { return make([]field, len(x.parts)) }

// may: by the chapter's words.
func (x thing) may(l []field) bool {
	for i, p := range x.parts {
		n := l[i].n
		if p.text {
			n = len(l[i].s)
		}
		if n < p.least || n > p.most {
			return false
		}
	}
	return x.fits(l)
}

// numBytes: a number as chapter 1 writes it.
func numBytes(n int) []byte {
	var b []byte
	for n > 127 {
		b = append(b, byte(n%128+128))
		n /= 128
	}
	return append(b, byte(n))
}

func textBytes(s string) []byte { return append(numBytes(len(s)), s...) }

// written: the fields' bytes, one behind the other, may they be or not.
func (x thing) written(l []field) []byte {
	var b []byte
	for i, p := range x.parts {
		if p.text {
			b = append(b, textBytes(l[i].s)...)
		} else {
			b = append(b, numBytes(l[i].n)...)
		}
	}
	return b
}

// readNum: the number that stands first, and what stands behind it.
func readNum(b []byte) (int, []byte, api.Errno) {
	n := 0
	for i := range 8 {
		if i == len(b) {
			return 0, nil, api.ErrEnd
		}
		n += int(b[i]%128) << (7 * i)
		switch {
		case n > mostNum, b[i] == 0 && i > 0:
			return 0, nil, api.ErrForm
		case b[i] < 128:
			return n, b[i+1:], api.OK
		}
	}
	return 0, nil, api.ErrForm
}

// readText: likewise, of at most 32 bytes.
func readText(b []byte) (string, []byte, api.Errno) {
	n, rest, e := readNum(b)
	switch {
	case e != api.OK:
		return "", nil, e
	case n > 32:
		return "", nil, api.ErrForm
	case n > len(rest):
		return "", nil, api.ErrEnd
	}
	return string(rest[:n]), rest[n:], api.OK
}

// read: what the chapter's words say of a Take of these bytes: the fields, how many bytes are left, and the reader's error.
func (x thing) read(b []byte) ([]field, int, api.Errno) {
	l := x.none()
	for i, p := range x.parts {
		var e api.Errno
		if p.text {
			l[i].s, b, e = readText(b)
		} else {
			l[i].n, b, e = readNum(b)
		}
		if e != api.OK {
			return x.none(), 0, e
		}
	}
	if !x.may(l) {
		return x.none(), 0, api.ErrForm
	}
	return l, len(b), api.OK
}

func someText(r *rand.Rand, n int) string {
	b := make([]byte, n)
	r.Read(b)
	return string(b)
}

// some: a number from least to most, often one of both or beside them.
func some(r *rand.Rand, least, most int) int {
	edges := []int{least, least + 1, most - 1, most}
	if i := r.Intn(8); i < len(edges) {
		return min(max(edges[i], least), most)
	}
	return least + r.Intn(most-least+1)
}

// drawn: fields that may be.
func (x thing) drawn(r *rand.Rand) []field {
	for {
		l := x.none()
		for i, p := range x.parts {
			n := some(r, p.least, p.most)
			if p.text {
				l[i].s = someText(r, n)
			} else {
				l[i].n = n
			}
		}
		if x.may(l) {
			return l
		}
	}
}

// spoilt: bytes with some of them changed, cut, put in, or taken out.
func spoilt(r *rand.Rand, b []byte) []byte {
	b = bytes.Clone(b)
	for range r.Intn(3) {
		at := r.Intn(len(b) + 1)
		switch r.Intn(4) {
		case 0:
			b = b[:at]
		case 1:
			b = slices.Insert(b, at, byte(r.Intn(256)))
		case 2:
			b = slices.Insert(b, at, []byte(someText(r, r.Intn(20)))...)
		default:
			if at < len(b) {
				b[at] = byte(r.Intn(256)) >> r.Intn(8)
			}
		}
	}
	return b
}

// long: a text of n bytes.
func long(n int) string { return strings.Repeat("k", n) }
