package point_test

import (
	"bytes"
	"cmp"
	"math"
	"slices"
	"testing"

	"glebe/api"
	"glebe/point"
	"glebe/wire"
)

func cell(x, y int) api.Point { return api.Point{X: x, Y: y} }

// rec, call, found: such as may be; tests change one thing of it.
func rec() point.Rec { return point.Rec{At: cell(1, 2), Key: "a", Value: "b", Ver: 3} }

func call() point.Op {
	return point.Op{Kind: point.Put, At: cell(4, 5), Key: "k", Value: "v", Client: 6, Seq: 7}
}

func found() point.Ans { return point.Ans{E: api.ErrFull, Found: true, Value: "w", Ver: 8} }

// The chapter's example.
func TestExample(t *testing.T) {
	b, e := point.PutRec(point.Rec{At: cell(1, 2), Key: "a", Value: "b", Ver: 3})
	if want := []byte{1, 2, 1, 97, 1, 98, 3}; e != api.OK || !bytes.Equal(b, want) {
		t.Errorf("%v, %d, want %v", b, e, want)
	}
}

// The constants are as the chapter writes them.
func TestConstants(t *testing.T) {
	if point.Get != 1 || point.Put != 2 || point.Del != 3 || point.MaxSeq != 1099511627776 {
		t.Errorf("%d %d %d %d", point.Get, point.Put, point.Del, point.MaxSeq)
	}
}

// recIs: RightRec and PutRec of it are so.
func recIs(t *testing.T, r point.Rec, want bool) {
	t.Helper()
	if point.RightRec(r) != want {
		t.Errorf("RightRec of %v is not %v", r, want)
	}
	b, e := point.PutRec(r)
	if (e == api.OK) != want || (len(b) > 0) != want || e != api.OK && e != api.ErrArg {
		t.Errorf("PutRec of %v: %v, %d", r, b, e)
	}
}

func opIs(t *testing.T, o point.Op, want bool) {
	t.Helper()
	if point.RightOp(o) != want {
		t.Errorf("RightOp of %v is not %v", o, want)
	}
	b, e := point.PutOp(o)
	if (e == api.OK) != want || (len(b) > 0) != want || e != api.OK && e != api.ErrArg {
		t.Errorf("PutOp of %v: %v, %d", o, b, e)
	}
}

func ansIs(t *testing.T, a point.Ans, want bool) {
	t.Helper()
	if point.RightAns(a) != want {
		t.Errorf("RightAns of %v is not %v", a, want)
	}
	b, e := point.PutAns(a)
	if (e == api.OK) != want || (len(b) > 0) != want || e != api.OK && e != api.ErrArg {
		t.Errorf("PutAns of %v: %v, %d", a, b, e)
	}
}

// A bound: numbers that may be, and such as may not.
type bound struct {
	in, out []int
}

func upTo(least, most int) bound {
	return bound{
		in:  []int{least, least + 1, most - 1, most},
		out: []int{least - 1, most + 1, math.MinInt, math.MaxInt, math.MinInt32, -1 << 32, 1 << 48, 1 << 62},
	}
}

// each: go through the bound, with what is wanted.
func (b bound) each(f func(n int, want bool)) {
	for _, n := range b.in {
		f(n, true)
	}
	for _, n := range b.out {
		f(n, false)
	}
}

// cells: of the bound of a cell's X and Y.
func cells() bound { return upTo(0, 65535) }

// P702: RightRec and PutRec: each field's edges.
func TestRecs(t *testing.T) {
	recIs(t, rec(), true)
	recIs(t, point.Rec{}, false)
	cells().each(func(n int, want bool) {
		r := rec()
		r.At.X = n
		recIs(t, r, want)
		r = rec()
		r.At.Y = n
		recIs(t, r, want)
		r.At.X = n
		recIs(t, r, want)
	})
	upTo(1, 1<<40).each(func(n int, want bool) {
		r := rec()
		r.Ver = n
		recIs(t, r, want)
	})
	for _, n := range []int{0, 1, 2, 15, 16, 17, 18, 32, 33, 256, 257, 272, 1 << 16} {
		r := rec()
		r.Key = long(n)
		recIs(t, r, 1 <= n && n <= 16)
	}
	for _, n := range []int{0, 1, 16, 17, 31, 32, 33, 34, 256, 288, 1 << 16} {
		r := rec()
		r.Value = long(n)
		recIs(t, r, n <= 32)
	}
}

// P702: RightOp and PutOp: each field's edges.
func TestOps(t *testing.T) {
	opIs(t, call(), true)
	opIs(t, point.Op{}, false)
	upTo(1, 3).each(func(n int, want bool) {
		o := call()
		o.Kind, o.Value = n, ""
		opIs(t, o, want)
	})
	cells().each(func(n int, want bool) {
		o := call()
		o.At.X = n
		opIs(t, o, want)
		o = call()
		o.At.Y = n
		opIs(t, o, want)
	})
	upTo(0, 7).each(func(n int, want bool) {
		o := call()
		o.Client = n
		opIs(t, o, want)
	})
	upTo(1, 1<<40).each(func(n int, want bool) {
		o := call()
		o.Seq = n
		opIs(t, o, want)
	})
}

// P702: a call's Key and Value; a Value just of Put.
func TestTextsOfOps(t *testing.T) {
	for kind := -1; kind <= 5; kind++ {
		may := 1 <= kind && kind <= 3
		for _, n := range []int{0, 1, 2, 15, 16, 17, 18, 32, 33, 256, 257, 272} {
			o := call()
			o.Kind, o.Key, o.Value = kind, long(n), ""
			opIs(t, o, may && 1 <= n && n <= 16)
		}
		for _, n := range []int{0, 1, 16, 17, 31, 32, 33, 34, 256, 288} {
			o := call()
			o.Kind, o.Value = kind, long(n)
			opIs(t, o, may && n == 0 || kind == point.Put && n <= 32)
		}
	}
}

// P702: RightAns and PutAns: each field's edges.
func TestAnswers(t *testing.T) {
	ansIs(t, found(), true)
	ansIs(t, point.Ans{}, true)
	ansIs(t, point.Ans{Found: true}, true)
	upTo(0, 255).each(func(n int, want bool) {
		a := found()
		a.E = api.Errno(n)
		ansIs(t, a, want)
		ansIs(t, point.Ans{E: api.Errno(n)}, want)
	})
	upTo(0, 1<<40).each(func(n int, want bool) {
		a := found()
		a.Ver = n
		ansIs(t, a, want)
		ansIs(t, point.Ans{Ver: n}, n == 0)
		ansIs(t, point.Ans{Ver: n, Value: "v"}, false)
	})
	for _, n := range []int{0, 1, 16, 17, 31, 32, 33, 34, 256, 288} {
		a := found()
		a.Value = long(n)
		ansIs(t, a, n <= 32)
		ansIs(t, point.Ans{Value: long(n)}, n == 0)
	}
}

// P702: keys and values are of any bytes.
func TestTextsOfAnyBytes(t *testing.T) {
	for i := range 256 {
		s := string([]byte{byte(i), 0, byte(255 - i)})
		r, o, a := rec(), call(), found()
		r.Key, r.Value = s, s
		o.Key, o.Value = s, s
		a.Value = s
		recIs(t, r, true)
		opIs(t, o, true)
		ansIs(t, a, true)
		if got := point.TakeRec(open(point.PutRec(r))); got != r {
			t.Errorf("%v was taken as %v", r, got)
		}
		if got := point.TakeOp(open(point.PutOp(o))); got != o {
			t.Errorf("%v was taken as %v", o, got)
		}
		if got := point.TakeAns(open(point.PutAns(a))); got != a {
			t.Errorf("%v was taken as %v", a, got)
		}
	}
}

func open(b []byte, _ api.Errno) *wire.Reader { return wire.Open(b) }

// P702: the bytes, of numbers with more than one group, too.
func TestBytes(t *testing.T) {
	r := point.Rec{At: cell(300, 65535), Key: "\x00\xff", Value: "", Ver: 1 << 40}
	if b, _ := point.PutRec(r); !bytes.Equal(b, []byte{172, 2, 255, 255, 3, 2, 0, 255, 0, 128, 128, 128, 128, 128, 32}) {
		t.Errorf("a record: %v", b)
	}
	if b, _ := point.PutOp(call()); !bytes.Equal(b, []byte{2, 4, 5, 1, 107, 1, 118, 6, 7}) {
		t.Errorf("a Put: %v", b)
	}
	for kind := range 4 {
		o := point.Op{Kind: kind, At: cell(128, 1), Key: "ab", Client: 0, Seq: 127}
		if b, _ := point.PutOp(o); kind > 0 && !bytes.Equal(b, []byte{byte(kind), 128, 1, 1, 2, 97, 98, 0, 0, 127}) {
			t.Errorf("a call of kind %d: %v", kind, b)
		}
	}
	if b, _ := point.PutAns(found()); !bytes.Equal(b, []byte{7, 1, 1, 119, 8}) {
		t.Errorf("Found: %v", b)
	}
	if b, _ := point.PutAns(point.Ans{E: 255}); !bytes.Equal(b, []byte{255, 1, 0, 0, 0}) {
		t.Errorf("not Found: %v", b)
	}
}

// ordered: of whatever else the records have.
func ordered(t *testing.T, a, b point.Rec, want int) {
	t.Helper()
	if got := point.Compare(a, b); got != want {
		t.Errorf("Compare of %v and %v: %d, want %d", a, b, got, want)
	}
	if got := point.Compare(b, a); got != -want {
		t.Errorf("Compare of %v and %v: %d, want %d", b, a, got, -want)
	}
}

// P702, P704: Compare: by Y, then X, then Key.
func TestCompare(t *testing.T) {
	at := func(x, y int, key string) point.Rec { return point.Rec{At: cell(x, y), Key: key, Value: "v", Ver: 1} }
	for _, x := range []struct {
		a, b point.Rec
		want int
	}{
		{at(1, 1, "a"), at(1, 2, "a"), -1},
		{at(2, 1, "b"), at(1, 2, "a"), -1},
		{at(65535, 0, "b"), at(0, 65535, "a"), -1},
		{at(1, 1, "a"), at(2, 1, "a"), -1},
		{at(1, 1, "b"), at(2, 1, "a"), -1},
		{at(1, 1, "a"), at(1, 1, "b"), -1},
		{at(1, 1, "a"), at(1, 1, "aa"), -1},
		{at(1, 1, "aa"), at(1, 1, "ab"), -1},
		{at(1, 1, "az"), at(1, 1, "b"), -1},
		{at(1, 1, "B"), at(1, 1, "a"), -1},
		{at(1, 1, "z"), at(1, 1, "\x80"), -1},
		{at(1, 1, "z"), at(1, 1, "ü"), -1},
		{at(1, 1, "\x7f"), at(1, 1, "\xff"), -1},
		{at(1, 1, "a"), at(1, 1, "a\x00"), -1},
		{at(1, 1, "\xff\xfe"), at(1, 1, "\xff\xff"), -1},
		{at(1, 1, "a"), at(1, 1, "a"), 0},
		{point.Rec{}, at(0, 0, "a"), -1},
		{point.Rec{}, point.Rec{}, 0},
	} {
		ordered(t, x.a, x.b, x.want)
	}
}

// P702, P704: neither Value nor Ver counts; records that may not be are held likewise.
func TestCompareOfAnyRecords(t *testing.T) {
	a, b := rec(), rec()
	b.Value, b.Ver = "c", 4
	ordered(t, a, b, 0)
	b.Value, b.Ver = long(1000), math.MinInt
	ordered(t, a, b, 0)
	b.At.Y = math.MinInt
	ordered(t, b, a, -1)
	a.At.Y = math.MaxInt
	ordered(t, b, a, -1)
	b.At = cell(math.MaxInt, math.MaxInt)
	ordered(t, a, b, -1)
	b.At = cell(math.MinInt, math.MaxInt)
	ordered(t, b, a, -1)
	b.At = a.At
	b.Key = ""
	ordered(t, b, a, -1)
	a.Key, b.Key = long(1000), long(1001)
	ordered(t, a, b, -1)
	b.Key = a.Key
	ordered(t, a, b, 0)
	ordered(t, point.Rec{At: cell(0, -1)}, point.Rec{At: cell(0, 0)}, -1)
	ordered(t, point.Rec{At: cell(-1, 0)}, point.Rec{At: cell(0, 0)}, -1)
}

// wordCompare: byte by byte.
func wordCompare(a, b point.Rec) int {
	if c := cmp.Or(cmp.Compare(a.At.Y, b.At.Y), cmp.Compare(a.At.X, b.At.X)); c != 0 {
		return c
	}
	for i := range min(len(a.Key), len(b.Key)) {
		if a.Key[i] != b.Key[i] {
			return cmp.Compare(int(a.Key[i]), int(b.Key[i]))
		}
	}
	return cmp.Compare(len(a.Key), len(b.Key))
}

// P704: an order: both ways round alike, and of three in a row the first one is ahead of the last one.
func TestCompareIsAnOrder(t *testing.T) {
	var all []point.Rec
	for _, y := range []int{math.MinInt, -1, 0, 7} {
		for _, x := range []int{0, 9, math.MaxInt} {
			for i, key := range []string{"", "a", "a\x00", "ab", "\xff"} {
				all = append(all, point.Rec{At: cell(x, y), Key: key, Ver: i}, point.Rec{At: cell(x, y), Key: key, Value: "v"})
			}
		}
	}
	for i, a := range all {
		for j, b := range all {
			c := point.Compare(a, b)
			if c != wordCompare(a, b) || c != -point.Compare(b, a) || (c == 0) != (i/2 == j/2) {
				t.Fatalf("%v and %v: %d", a, b, c)
			}
			for _, d := range all {
				if c <= 0 && point.Compare(b, d) <= 0 && point.Compare(a, d) > min(c, point.Compare(b, d)) {
					t.Fatalf("%v, %v, %v: not one behind the other", a, b, d)
				}
			}
		}
	}
	turned := slices.Clone(all)
	slices.Reverse(turned)
	slices.SortFunc(turned, point.Compare)
	if !slices.IsSortedFunc(turned, wordCompare) {
		t.Error("sorted otherwise")
	}
}

// refuses: a Take of these bytes is zero, with that error.
func refuses(t *testing.T, x thing, what string, b []byte, want api.Errno) {
	t.Helper()
	r := wire.Open(b)
	if got := x.take(r); !slices.Equal(got, x.none()) || r.Err() != want || r.Done() != want || r.Left() != 0 {
		t.Errorf("%s, %s (%v): %v, Err %d, Left %d, want %d", x.name, what, b, got, r.Err(), r.Left(), want)
	}
}

// A fault: bytes, and what a Take of them comes to.
type fault struct {
	b    string
	want api.Errno
}

func refusesAll(t *testing.T, x thing, l []fault) {
	t.Helper()
	for _, f := range l {
		refuses(t, x, "a fault", []byte(f.b), f.want)
	}
}

// told: the bytes of a text of that length.
func told(n int) string { return string(textBytes(long(n))) }

// P702: what TakeRec refuses, and at which place.
func TestTakeRecRefuses(t *testing.T) {
	refusesAll(t, recThing(), []fault{
		{"", api.ErrEnd},
		{"\x01\x02\x01a\x01b", api.ErrEnd},
		{"\x80\x80\x04\x02\x01a\x01b\x03", api.ErrForm},             // X 2^16
		{"\x80\x80\x04", api.ErrEnd},                                // told when all is read
		{"\x01\x80\x80\x04\x01a\x01b\x03", api.ErrForm},             // Y 2^16
		{"\x01\x80\x80\x04\x01a\x01b", api.ErrEnd},                  // likewise
		{"\x01\x02\x00\x01b\x03", api.ErrForm},                      // no Key
		{"\x01\x02\x00\x01b", api.ErrEnd},                           // likewise
		{"\x01\x02" + told(17) + "\x01b\x03", api.ErrForm},          // a Key of 17 bytes
		{"\x01\x02" + told(17) + "\x01b", api.ErrEnd},               // it is no longer than a Value may be
		{"\x01\x02" + told(17)[:17], api.ErrEnd},                    // likewise
		{"\x01\x02" + told(32) + "\x01b\x03", api.ErrForm},          // a Key of 32 bytes
		{"\x01\x02" + told(32), api.ErrEnd},                         // likewise
		{"\x01\x02" + told(33) + "\x01b\x03", api.ErrForm},          // longer than any text
		{"\x01\x02\x21", api.ErrForm},                               // so at its length
		{"\x01\x02\x01a\x21", api.ErrForm},                          // a Value likewise
		{"\x01\x02\x01a" + told(33) + "\x03", api.ErrForm},          // with all of it there
		{"\x01\x02\x01a\x20", api.ErrEnd},                           // one of 32 bytes isn't there
		{"\x01\x02\x01a\xa0\x01", api.ErrForm},                      // one of 160
		{"\x01\x02\x01a\xa0", api.ErrEnd},                           // a length that isn't all there
		{"\x01\x02\x01a\x01b\x00", api.ErrForm},                     // Ver 0
		{"\x01\x02\x01a\x01b\x81\x80\x80\x80\x80\x20", api.ErrForm}, // Ver 2^40 + 1
		{"\x81\x00\x02\x01a\x01b\x03", api.ErrForm},                 // X not in as few bytes as can be
		{"\x81\x00", api.ErrForm},                                   // so at that byte
		{"\x01\x02\x01a\x01b\x83\x00", api.ErrForm},                 // Ver likewise
		{"\x01\x02\x81\x00a\x01b\x03", api.ErrForm},                 // the Key's length likewise
		{"\x81\x80\x80\x80\x80\x80\x80\x10", api.ErrForm},           // a number above MaxNum
		{"\x80\x80\x80\x80\x80\x80\x80\x10", api.ErrEnd},            // MaxNum
	})
}

// P702: what TakeOp refuses, and at which place.
func TestTakeOpRefuses(t *testing.T) {
	refusesAll(t, opThing(), []fault{
		{"", api.ErrEnd},
		{"\x02\x04\x05\x01k\x01v\x06", api.ErrEnd},
		{"\x00\x04\x05\x01k\x00\x06\x07", api.ErrForm},             // Kind 0
		{"\x00", api.ErrEnd},                                       // told when all is read
		{"\x04\x04\x05\x01k\x00\x06\x07", api.ErrForm},             // Kind 4
		{"\x04\x04\x05\x01k\x00\x06", api.ErrEnd},                  // likewise
		{"\x01\x04\x05\x01k\x01v\x06\x07", api.ErrForm},            // a Get with a Value
		{"\x03\x04\x05\x01k\x01v\x06\x07", api.ErrForm},            // a Del with one
		{"\x03\x04\x05\x01k\x01v\x06", api.ErrEnd},                 // likewise
		{"\x02\x80\x80\x04\x05\x01k\x01v\x06\x07", api.ErrForm},    // X 2^16
		{"\x02\x04\x80\x80\x04\x01k\x01v\x06\x07", api.ErrForm},    // Y 2^16
		{"\x02\x04\x05\x00\x01v\x06\x07", api.ErrForm},             // no Key
		{"\x02\x04\x05" + told(17) + "\x01v\x06\x07", api.ErrForm}, // a Key of 17 bytes
		{"\x02\x04\x05" + told(17) + "\x01v\x06", api.ErrEnd},      // it is no longer than a Value may be
		{"\x02\x04\x05\x21", api.ErrForm},                          // one of 33 bytes is
		{"\x02\x04\x05\x01k\x21", api.ErrForm},                     // a Value likewise
		{"\x01\x04\x05\x01k\x21", api.ErrForm},                     // of a Get, too
		{"\x02\x04\x05\x01k\x01v\x08\x07", api.ErrForm},            // Client 8
		{"\x02\x04\x05\x01k\x01v\x08", api.ErrEnd},                 // told when all is read
		{"\x02\x04\x05\x01k\x01v\x06\x00", api.ErrForm},            // Seq 0
		{"\x02\x04\x05\x01k\x01v\x06\x81\x80\x80\x80\x80\x20", api.ErrForm},
		{"\x82\x00\x04\x05\x01k\x01v\x06\x07", api.ErrForm}, // a Kind not in as few bytes as can be
		{"\x02\x04\x05\x01k\x01v\x06\x87\x00", api.ErrForm}, // Seq likewise
	})
}

// P702: what TakeAns refuses, and at which place.
func TestTakeAnsRefuses(t *testing.T) {
	refusesAll(t, ansThing(), []fault{
		{"", api.ErrEnd},
		{"\x00\x01\x00", api.ErrEnd},
		{"\x80\x02\x01\x00\x00", api.ErrForm},                  // E 256
		{"\x80\x02\x01\x00", api.ErrEnd},                       // told when all is read
		{"\x00\x02\x00\x00", api.ErrForm},                      // Found 2
		{"\x00\x02\x01v\x01", api.ErrForm},                     // likewise
		{"\x00\x02\x00", api.ErrEnd},                           // told when all is read
		{"\x00\xff\x01\x00\x00", api.ErrForm},                  // Found 255
		{"\x00\x81\x02\x01v\x01", api.ErrForm},                 // Found 257
		{"\x00\x81\x00\x01v\x01", api.ErrForm},                 // Found not in as few bytes as can be
		{"\x00\x80\x00\x00\x00", api.ErrForm},                  // likewise
		{"\x00\x00\x01v\x00", api.ErrForm},                     // not Found, with a Value
		{"\x00\x00\x00\x01", api.ErrForm},                      // not Found, with a Ver
		{"\x00\x00\x01v\x01", api.ErrForm},                     // with both
		{"\x00\x00\x01v", api.ErrEnd},                          // told when all is read
		{"\x00\x01\x21", api.ErrForm},                          // a Value of 33 bytes, at its length
		{"\x00\x00\x21", api.ErrForm},                          // not Found, too
		{"\x00\x02\x21", api.ErrForm},                          // and of no Found
		{"\x00\x01" + told(33) + "\x01", api.ErrForm},          // with all of it there
		{"\x00\x01\x20", api.ErrEnd},                           // one of 32 bytes isn't there
		{"\x00\x01\x01v\x81\x80\x80\x80\x80\x20", api.ErrForm}, // Ver 2^40 + 1
	})
}

// P702: a Value of 32 bytes, and numbers at their ends, are taken.
func TestTakesTheGreatest(t *testing.T) {
	r := point.Rec{At: cell(65535, 65535), Key: long(16), Value: long(32), Ver: 1 << 40}
	if got := point.TakeRec(wire.Open([]byte("\xff\xff\x03\xff\xff\x03" + told(16) + told(32) + "\x80\x80\x80\x80\x80\x20"))); got != r {
		t.Errorf("a record: %v", got)
	}
	o := point.Op{Kind: 2, At: cell(65535, 65535), Key: long(16), Value: long(32), Client: 7, Seq: 1 << 40}
	if got := point.TakeOp(wire.Open([]byte("\x02\xff\xff\x03\xff\xff\x03" + told(16) + told(32) + "\x07\x80\x80\x80\x80\x80\x20"))); got != o {
		t.Errorf("a call: %v", got)
	}
	a := point.Ans{E: 255, Found: true, Value: long(32), Ver: 1 << 40}
	if got := point.TakeAns(wire.Open([]byte("\xff\x01\x01" + told(32) + "\x80\x80\x80\x80\x80\x20"))); got != a {
		t.Errorf("an answer: %v", got)
	}
}

// P701, P702: a nil reader, one that nobody made, and one that has an error already.
func TestReadersWithAnError(t *testing.T) {
	for _, x := range things() {
		for _, r := range []*wire.Reader{nil, new(wire.Reader), {}} {
			if got := x.take(r); !slices.Equal(got, x.none()) || r.Err() != api.ErrArg || r.Left() != 0 {
				t.Errorf("%s: %v, Err %d", x.name, got, r.Err())
			}
		}
		for _, e := range []api.Errno{api.ErrHop, api.ErrEnd, api.ErrForm, api.ErrSum, -1} {
			for _, s := range []string{"\x01\x02\x01a\x01b\x03", "\x02\x04\x05\x01k\x01v\x06\x07", "\x00\x01\x00\x00", ""} {
				r := wire.Open([]byte(s))
				r.Fail(e)
				if got := x.take(r); !slices.Equal(got, x.none()) || r.Err() != e || r.Left() != 0 {
					t.Errorf("%s with error %d: %v, Err %d", x.name, e, got, r.Err())
				}
			}
		}
	}
}

// P702, P703: where the reader stands behind each call.
func TestOneBehindTheOther(t *testing.T) {
	r := wire.Open([]byte("\x01\x02\x01a\x01b\x03" + "\x02\x04\x05\x01k\x01v\x06\x07" + "\x07\x01\x01w\x08" + "\x2a"))
	if got := point.TakeRec(r); got != rec() || r.Left() != 15 || r.Err() != api.OK {
		t.Errorf("%v, Left %d, Err %d", got, r.Left(), r.Err())
	}
	if got := point.TakeOp(r); got != call() || r.Left() != 6 || r.Err() != api.OK {
		t.Errorf("%v, Left %d, Err %d", got, r.Left(), r.Err())
	}
	if got := point.TakeAns(r); got != found() || r.Left() != 1 || r.Err() != api.OK {
		t.Errorf("%v, Left %d, Err %d", got, r.Left(), r.Err())
	}
	if n := r.Num(); n != 42 || r.Done() != api.OK {
		t.Errorf("%d, Done %d", n, r.Done())
	}
	if got := point.TakeAns(r); got != (point.Ans{}) || r.Err() != api.ErrEnd {
		t.Errorf("behind the end: %v, Err %d", got, r.Err())
	}
}
