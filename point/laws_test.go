package point_test

import (
	"bytes"
	"math"
	"math/rand"
	"slices"
	"testing"

	"glebe/api"
	"glebe/point"
	"glebe/wire"
)

// takesAsRead: Take of these bytes is as the model reads them; what is taken is put as the bytes that it was taken from. Was something taken?
func takesAsRead(t *testing.T, x thing, b []byte) bool {
	t.Helper()
	want, left, e := x.read(b)
	r := wire.Open(b)
	got := x.take(r)
	if !slices.Equal(got, want) || r.Err() != e || r.Left() != left {
		t.Fatalf("%s of %v: %v, Err %d, Left %d, want %v, %d, %d", x.name, b, got, r.Err(), r.Left(), want, e, left)
	}
	if e != api.OK {
		return false
	}
	if back, e := x.put(got); e != api.OK || !bytes.Equal(back, b[:len(b)-left]) {
		t.Fatalf("%s: %v was taken from %v, and put as %v, %d", x.name, got, b, back, e)
	}
	return true
}

// P702, P703: what is put is its bytes by the words, and taken as it was, with anything behind it.
func TestThereAndBack(t *testing.T) {
	for _, x := range things() {
		r := rand.New(rand.NewSource(7))
		for range 4000 {
			l := x.drawn(r)
			b, e := x.put(l)
			if !x.right(l) || e != api.OK || !bytes.Equal(b, x.written(l)) {
				t.Fatalf("%s %v was put as %v, %d", x.name, l, b, e)
			}
			behind := someText(r, r.Intn(12))
			rest := wire.Open(append(bytes.Clone(b), behind...))
			if got := x.take(rest); !slices.Equal(got, l) || rest.Left() != len(behind) || rest.Err() != api.OK {
				t.Fatalf("%s %v was taken as %v, Left %d, Err %d", x.name, l, got, rest.Left(), rest.Err())
			}
			takesAsRead(t, x, b)
		}
	}
}

// P702, P703: bytes that end in the midst of each field, and at its end.
func TestEndsOfBytes(t *testing.T) {
	for _, x := range things() {
		r := rand.New(rand.NewSource(8))
		for range 200 {
			b := x.written(x.drawn(r))
			for i := range b {
				refuses(t, x, "cut off", b[:i], api.ErrEnd)
				takesAsRead(t, x, b[:i])
			}
		}
	}
}

// past: n, or a text as long, that the part may not have.
func past(p part, n int) field {
	if p.text {
		return field{s: long(n)}
	}
	return field{n: n}
}

// P702, P703: one field that may not be, with more bytes behind, and without.
func TestOneFieldThatMayNotBe(t *testing.T) {
	for _, x := range things() {
		r := rand.New(rand.NewSource(9))
		for i, p := range x.parts {
			for _, n := range []int{p.least - 1, p.most + 1, p.most + 16, p.most + 100} {
				if n < 0 {
					continue
				}
				l := x.drawn(r)
				l[i] = past(p, n)
				b := x.written(l)
				refuses(t, x, "a field that may not be", b, api.ErrForm)
				refuses(t, x, "with more behind", append(bytes.Clone(b), b...), api.ErrForm)
				for end := range b {
					takesAsRead(t, x, b[:end])
				}
			}
		}
	}
}

// P702, P703: a number that is not written in as few bytes as can be is ErrForm in each place.
func TestNumbersTooLong(t *testing.T) {
	for _, x := range things() {
		r := rand.New(rand.NewSource(10))
		for i := range x.parts {
			for range 20 {
				l := x.drawn(r)
				ahead := thing{parts: x.parts[:i]}.written(l)
				b := x.written(l)
				at := len(ahead)
				for b[at] > 127 {
					at++
				}
				b[at] += 128
				b = slices.Insert(b, at+1, 0)
				refuses(t, x, "a number with a byte too many", b, api.ErrForm)
				refuses(t, x, "ending there", b[:at+2], api.ErrForm)
				refuses(t, x, "ending ahead of that", b[:at+1], api.ErrEnd)
			}
		}
	}
}

// P702, P703: drawn bytes, most of them near to such as are put.
func TestDrawnBytes(t *testing.T) {
	for _, x := range things() {
		r := rand.New(rand.NewSource(11))
		taken := 0
		for i := range 60000 {
			b := []byte(someText(r, r.Intn(30)))
			if i%4 != 0 {
				b = spoilt(r, x.written(x.drawn(r)))
			}
			if takesAsRead(t, x, b) {
				taken++
			}
		}
		if taken < 5000 || taken > 55000 {
			t.Errorf("%s: %d were taken", x.name, taken)
		}
	}
}

// P702, P703: all short bytes of small numbers.
func TestAllShortBytes(t *testing.T) {
	small := []byte{0, 1, 2, 3, 4, 8, 33, 128}
	for _, x := range things() {
		for i := range 1 << 18 {
			b := make([]byte, 6)
			for j := range b {
				b[j] = small[i>>(3*j)&7]
			}
			takesAsRead(t, x, b)
		}
	}
	for i := range 1 << 16 {
		takesAsRead(t, ansThing(), []byte{byte(i), byte(i >> 8), 0, 0})
	}
}

// P702: may be, and what is put, of drawn fields of which some are past their ends.
func TestRightOfDrawnFields(t *testing.T) {
	for _, x := range things() {
		r := rand.New(rand.NewSource(12))
		right := 0
		for range 20000 {
			l := x.drawn(r)
			for range r.Intn(3) {
				i := r.Intn(len(l))
				p := x.parts[i]
				if x.name == "answer" && i == 1 { // a bool
					l[i].n = r.Intn(2)
				} else if n := some(r, p.least-2, p.most+2); p.text {
					l[i] = past(p, max(n, 0))
				} else {
					l[i] = past(p, n)
				}
			}
			want := x.may(l)
			if want {
				right++
			}
			b, e := x.put(l)
			switch {
			case x.right(l) != want:
				t.Fatalf("%s %v may be: %v, want %v", x.name, l, !want, want)
			case want && (e != api.OK || !bytes.Equal(b, x.written(l))):
				t.Fatalf("%s %v was put as %v, %d", x.name, l, b, e)
			case !want && (e != api.ErrArg || len(b) > 0):
				t.Fatalf("%s %v, which may not be, was put as %v, %d", x.name, l, b, e)
			}
		}
		if right < 5000 || right > 19000 {
			t.Errorf("%s: %d may be", x.name, right)
		}
	}
}

// P704: of drawn records.
func TestCompareOfDrawnRecords(t *testing.T) {
	r := rand.New(rand.NewSource(13))
	draw := func() point.Rec {
		return point.Rec{At: cell(r.Intn(3)-1, r.Intn(3)-1), Key: someText(r, r.Intn(3)), Value: someText(r, 1), Ver: r.Intn(9)}
	}
	for range 20000 {
		a, b := draw(), draw()
		if got, want := point.Compare(a, b), wordCompare(a, b); got != want || point.Compare(b, a) != -want {
			t.Fatalf("%v and %v: %d, want %d", a, b, got, want)
		}
		b.At, b.Key = a.At, a.Key
		if got := point.Compare(a, b); got != 0 {
			t.Fatalf("%v and %v: %d", a, b, got)
		}
	}
}

// fill: a list and the room behind it.
func fill(b []byte) {
	b = b[:cap(b)]
	for i := range b {
		b[i] = 0x55
	}
}

// P701: what is put is new memory, its room, too; what is taken does not change with the bytes.
func TestAnswersAreApart(t *testing.T) {
	for _, x := range things() {
		r := rand.New(rand.NewSource(14))
		for range 100 {
			l := x.drawn(r)
			one, _ := x.put(l)
			two, _ := x.put(l)
			fill(one)
			if !bytes.Equal(two, x.written(l)) {
				t.Fatalf("%s: two answers share memory", x.name)
			}
			got := x.take(wire.Open(two))
			fill(two)
			if !slices.Equal(got, l) {
				t.Fatalf("%s: what was taken has changed with the bytes", x.name)
			}
		}
	}
}

// P7: huge and negative numbers, and long texts, in all fields.
func TestAnything(t *testing.T) {
	numbers := []int{math.MinInt, math.MinInt + 1, -1 << 40, -1, 0, 1, 2, 1 << 16, 1 << 40, 1 << 53, math.MaxInt - 1, math.MaxInt}
	texts := []string{"", "a", "\x00", "\xff\xff", long(16), long(32), long(33), long(1 << 18)}
	for _, x := range things() {
		r := rand.New(rand.NewSource(15))
		for range 3000 {
			l := x.none()
			for i, p := range x.parts {
				if p.text {
					l[i].s = texts[r.Intn(len(texts))]
				} else {
					l[i].n = numbers[r.Intn(len(numbers))]
				}
			}
			b, e := x.put(l)
			if right := x.right(l); (e == api.OK) != right || (len(b) > 0) != right || e != api.OK && e != api.ErrArg {
				t.Fatalf("%s %v: right %v, %v, %d", x.name, l, right, b, e)
			}
			recs := []point.Rec{{At: cell(l[0].n, l[1].n), Key: texts[r.Intn(len(texts))]}, {At: cell(l[1].n, l[0].n), Key: texts[r.Intn(len(texts))]}}
			if got := point.Compare(recs[0], recs[1]); got != wordCompare(recs[0], recs[1]) {
				t.Fatalf("Compare: %d", got)
			}
		}
	}
}

// P8: the same calls have the same answers.
func TestAgain(t *testing.T) {
	for _, x := range things() {
		r := rand.New(rand.NewSource(16))
		for range 300 {
			b := spoilt(r, x.written(x.drawn(r)))
			one, two := wire.Open(b), wire.Open(b)
			first := x.take(one)
			if again := x.take(two); !slices.Equal(first, again) || one.Err() != two.Err() || one.Left() != two.Left() {
				t.Fatalf("%s of %v: %v, then %v", x.name, b, first, again)
			}
			kept, e := x.put(first)
			if again, f := x.put(first); e != f || !bytes.Equal(kept, again) {
				t.Fatalf("%s %v: %v, then %v", x.name, first, kept, again)
			}
		}
	}
}
