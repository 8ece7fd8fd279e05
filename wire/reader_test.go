package wire

import (
	"bytes"
	"math"
	"strings"
	"testing"

	"glebe/api"
)

// failed: the reader has that error, and each call answers 0 or "".
func failed(t *testing.T, what string, r *Reader, want api.Errno) {
	t.Helper()
	if r.Err() != want || r.Done() != want {
		t.Errorf("%q: Err %d, Done %d, want %d", what, r.Err(), r.Done(), want)
	}
	if n := r.Num(); n != 0 {
		t.Errorf("%q: Num %d", what, n)
	}
	if n := r.Upto(math.MaxInt); n != 0 {
		t.Errorf("%q: Upto %d", what, n)
	}
	if s := r.Text(math.MaxInt); s != "" {
		t.Errorf("%q: Text %q", what, s)
	}
	if n := r.Left(); n != 0 {
		t.Errorf("%q: Left %d", what, n)
	}
	r.Fail(api.ErrHop)
	if r.Err() != want || r.Done() != want {
		t.Errorf("%q: Err %d, Done %d at last, want %d", what, r.Err(), r.Done(), want)
	}
}

// P101: a nil Reader, and one that Open did not make.
func TestReadersThatNobodyMade(t *testing.T) {
	var none *Reader
	failed(t, "nil", none, api.ErrArg)
	failed(t, "new", new(Reader), api.ErrArg)
	failed(t, "a literal", &Reader{}, api.ErrArg)
	r := new(Reader)
	r.Fail(api.ErrSum)
	failed(t, "Fail first", r, api.ErrArg)
	none.Fail(api.ErrSum)
	none.Fail(api.OK)
	failed(t, "nil, Fail first", none, api.ErrArg)
}

// P104: a reader of nothing.
func TestReaderOfNothing(t *testing.T) {
	for _, b := range [][]byte{nil, {}} {
		r := Open(b)
		if r == nil || r.Left() != 0 || r.Err() != api.OK || r.Done() != api.OK {
			t.Fatal("a reader of nothing")
		}
		if n := r.Num(); n != 0 {
			t.Errorf("Num %d", n)
		}
		failed(t, "nothing", r, api.ErrEnd)
		for _, most := range []int{math.MinInt, -1, 0, 5} {
			r = Open(b)
			r.Upto(most)
			failed(t, "Upto of nothing", r, api.ErrEnd)
			r = Open(b)
			r.Text(most)
			failed(t, "Text of nothing", r, api.ErrEnd)
		}
	}
}

// faults: bytes whose beginning is no number, and why.
func faults() map[string]api.Errno {
	return map[string]api.Errno{
		"\x80":                                 api.ErrEnd,
		"\xff":                                 api.ErrEnd,
		"\x80\x80\x80\x80\x80\x80\x80":         api.ErrEnd,
		"\xff\xff\xff\xff\xff\xff\xff":         api.ErrEnd,
		"\x80\x00":                             api.ErrForm,
		"\x81\x00":                             api.ErrForm,
		"\xff\x80\x00":                         api.ErrForm,
		"\x80\x00\x05":                         api.ErrForm,
		"\x80\x80\x80\x80\x80\x80\x80\x00":     api.ErrForm,
		"\x81\x80\x80\x80\x80\x80\x80\x10":     api.ErrForm,
		"\xff\xff\xff\xff\xff\xff\xff\x10":     api.ErrForm,
		"\x80\x80\x80\x80\x80\x80\x80\x11":     api.ErrForm,
		"\x80\x80\x80\x80\x80\x80\x80\x7f":     api.ErrForm,
		"\x80\x80\x80\x80\x80\x80\x80\x80":     api.ErrForm,
		"\x80\x80\x80\x80\x80\x80\x80\x90":     api.ErrForm,
		"\x80\x80\x80\x80\x80\x80\x80\x80\x01": api.ErrForm,
		"\x80\x80\x80\x80\x80\x80\x80\x80\x00": api.ErrForm,
	}
}

// P104: Num.
func TestReaderNumFaults(t *testing.T) {
	for s, want := range faults() {
		r := Open([]byte(s))
		if n := r.Num(); n != 0 {
			t.Errorf("%q: %d", s, n)
		}
		failed(t, "Num of "+s, r, want)
		r = Open([]byte("\x07" + s))
		if first, n := r.Num(), r.Num(); first != 7 || n != 0 {
			t.Errorf("behind a number %q: %d %d", s, first, n)
		}
		failed(t, "the second Num of "+s, r, want)
		for _, most := range bounds() {
			bounded(t, s, most, want)
		}
	}
}

// bounds: what Upto and Text are handed as most.
func bounds() []int {
	return []int{math.MinInt, -1, 0, 1, 5, 127, 128, 16383, 16384, api.MaxNum - 1, api.MaxNum, api.MaxNum + 1, math.MaxInt}
}

// bounded: Upto and Text of these bytes, up to most, answer that error.
func bounded(t *testing.T, s string, most int, want api.Errno) {
	t.Helper()
	r := Open([]byte(s))
	if n := r.Upto(most); n != 0 {
		t.Errorf("Upto(%d) of %q: %d", most, s, n)
	}
	failed(t, "Upto of "+s, r, want)
	r = Open([]byte(s))
	if x := r.Text(most); x != "" {
		t.Errorf("Text(%d) of %q: %q", most, s, x)
	}
	failed(t, "Text of "+s, r, want)
}

// P104, P105: numbers there and back, one behind the other.
func TestReaderNumbers(t *testing.T) {
	var all []byte
	for _, n := range edges() {
		b, _ := Num(n)
		all = append(all, b...)
		for i := range b {
			r := Open(b[:i])
			r.Num()
			failed(t, "cut off", r, api.ErrEnd)
		}
	}
	r := Open(all)
	left := len(all)
	for _, n := range edges() {
		if got := r.Num(); got != n {
			t.Errorf("%d, want %d", got, n)
		}
		left -= len(wordNum(n))
		if r.Left() != left || r.Err() != api.OK {
			t.Errorf("%d are left, want %d; Err %d", r.Left(), left, r.Err())
		}
	}
	if r.Done() != api.OK {
		t.Error("not done")
	}
}

// P105: whatever bytes are read as a number, Num writes that number just so.
func TestReaderReadsWhatWasWritten(t *testing.T) {
	read := 0
	for i := range 1 << 24 {
		b := [3]byte{byte(i), byte(i >> 8), byte(i >> 16)}
		n, size, e := number(b[:])
		if e != api.OK {
			continue
		}
		read++
		if !bytes.Equal(b[:size], wordNum(n)) {
			t.Fatalf("%v was read as %d", b[:size], n)
		}
	}
	// 128 of one byte, 128 * 127 of two, 128 * 128 * 127 of three.
	if want := 128<<16 + 128*127<<8 + 128*128*127; read != want {
		t.Errorf("%d were read, want %d", read, want)
	}
}

// P104: Upto.
func TestReaderUpto(t *testing.T) {
	for _, n := range edges() {
		b, _ := Num(n)
		for _, most := range []int{n, n + 1, math.MaxInt} {
			r := Open(b)
			if got := r.Upto(most); got != n || r.Done() != api.OK {
				t.Errorf("%d up to %d: %d, %d", n, most, got, r.Err())
			}
		}
		for _, most := range []int{n - 1, -1, math.MinInt} {
			r := Open(append(bytes.Clone(b), 0))
			if got := r.Upto(most); got != 0 {
				t.Errorf("%d up to %d: %d", n, most, got)
			}
			failed(t, "above most", r, api.ErrForm)
		}
		for i := range b {
			for _, most := range append(bounds(), n-1, n) {
				bounded(t, string(b[:i]), most, api.ErrEnd)
			}
		}
	}
}

// P104: bytes that end ahead of a number's last group are ErrEnd, even where their groups are above most already; a number that is there, and above most, is ErrForm.
func TestReaderAboveMost(t *testing.T) {
	for _, x := range []struct {
		s    string
		most int
		want api.Errno
	}{
		{"\x81", 0, api.ErrEnd},
		{"\x86", 5, api.ErrEnd},
		{"\x85", 5, api.ErrEnd},
		{"\x80", 127, api.ErrEnd},
		{"\x80\x81", 127, api.ErrEnd},
		{"\x80", -1, api.ErrEnd},
		{"\x06", 5, api.ErrForm},
		{"\x86\x01", 5, api.ErrForm},
		{"\x80\x01", 127, api.ErrForm},
		{"\x80\x80\x01", 16383, api.ErrForm},
		{"\x00", -1, api.ErrForm},
		{"\x86\x00", 5, api.ErrForm},
		{"\x80\x80\x80\x80\x80\x80\x80\x10", api.MaxNum - 1, api.ErrForm},
	} {
		bounded(t, x.s, x.most, x.want)
	}
}

// P104: of any two bytes Upto answers what Num does, but of a number above most.
func TestReaderUptoIsNumWithABound(t *testing.T) {
	for i := range 1 << 16 {
		b := []byte{byte(i), byte(i >> 8)}
		plain := Open(b)
		n := plain.Num()
		for _, most := range bounds() {
			want, wantErr := n, plain.Err()
			if wantErr == api.OK && n > most {
				want, wantErr = 0, api.ErrForm
			}
			r := Open(b)
			if got := r.Upto(most); got != want || r.Err() != wantErr {
				t.Fatalf("%v up to %d: %d, %d, want %d, %d", b, most, got, r.Err(), want, wantErr)
			}
			if wantErr == api.OK && r.Left() != plain.Left() {
				t.Fatalf("%v up to %d: %d are left, want %d", b, most, r.Left(), plain.Left())
			}
		}
	}
}

// P104, P105: Text.
func TestReaderTexts(t *testing.T) {
	l := []string{"", "ab", "\x00\x80\xff", "ü", strings.Repeat("x", 128), strings.Repeat("y", api.MaxBytes)}
	var all []byte
	for _, s := range l {
		b, _ := Text(s)
		all = append(all, b...)
		for _, most := range []int{len(s), len(s) + 1, api.MaxBytes, math.MaxInt} {
			r := Open(b)
			if got := r.Text(most); got != s || r.Done() != api.OK {
				t.Errorf("%d bytes up to %d: %d bytes, %d", len(s), most, len(got), r.Err())
			}
		}
		for _, most := range []int{len(s) - 1, -1, math.MinInt} {
			r := Open(b)
			if got := r.Text(most); got != "" {
				t.Errorf("%d bytes up to %d: %d bytes", len(s), most, len(got))
			}
			failed(t, "above most", r, api.ErrForm)
		}
		r := Open(b[:len(b)-1])
		r.Text(api.MaxBytes)
		failed(t, "cut off", r, api.ErrEnd)
	}
	r := Open(all)
	for _, s := range l {
		if got := r.Text(api.MaxBytes); got != s {
			t.Errorf("%d bytes, want %d", len(got), len(s))
		}
	}
	if r.Done() != api.OK {
		t.Errorf("Done %d", r.Done())
	}
}

func TestReaderTextFaults(t *testing.T) {
	for _, x := range []struct {
		s    string
		most int
		want api.Errno
	}{
		{"\x02a", 2, api.ErrEnd},
		{"\x02a", 1, api.ErrForm},
		{"\x01", 1, api.ErrEnd},
		{"\x00", -1, api.ErrForm},
		{"\x80\x80\x80\x80\x80\x80\x80\x10ab", math.MaxInt, api.ErrEnd},
		{"\x80\x80\x80\x80\x80\x80\x80\x10ab", api.MaxBytes, api.ErrForm},
	} {
		r := Open([]byte(x.s))
		if s := r.Text(x.most); s != "" {
			t.Errorf("%q: %q", x.s, s)
		}
		failed(t, "Text of "+x.s, r, x.want)
	}
}

// P104: Left and Done; Done looks, and changes nothing.
func TestReaderLeftAndDone(t *testing.T) {
	r := Open([]byte("\x05\x80\x01\x02ab\x09"))
	for _, left := range []int{7, 7} {
		if r.Left() != left || r.Done() != api.ErrForm || r.Err() != api.OK {
			t.Errorf("Left %d, Done %d, Err %d", r.Left(), r.Done(), r.Err())
		}
	}
	if n := r.Num(); n != 5 || r.Left() != 6 {
		t.Errorf("Num %d, Left %d", n, r.Left())
	}
	if n := r.Upto(128); n != 128 || r.Left() != 4 {
		t.Errorf("Upto %d, Left %d", n, r.Left())
	}
	if s := r.Text(2); s != "ab" || r.Left() != 1 || r.Done() != api.ErrForm {
		t.Errorf("Text %q, Left %d, Done %d", s, r.Left(), r.Done())
	}
	if n := r.Num(); n != 9 || r.Left() != 0 || r.Done() != api.OK {
		t.Errorf("Num %d, Left %d, Done %d", n, r.Left(), r.Done())
	}
}

// P104: Fail: the first error stays; OK is none.
func TestReaderFail(t *testing.T) {
	r := Open([]byte{1, 2})
	r.Fail(api.OK)
	if r.Err() != api.OK || r.Num() != 1 || r.Left() != 1 {
		t.Error("Fail of OK has done something")
	}
	r.Fail(api.ErrMeet)
	failed(t, "Fail", r, api.ErrMeet)
	r.Fail(api.OK)
	failed(t, "Fail of OK behind it", r, api.ErrMeet)
	r = Open([]byte{0x80})
	r.Num()
	r.Fail(api.ErrSum)
	failed(t, "Fail behind a fault", r, api.ErrEnd)
	for _, e := range []api.Errno{-1, 9999} {
		r = Open(nil)
		r.Fail(e)
		failed(t, "Fail of a strange error", r, e)
	}
}

// P101: bytes that are handed in are not kept.
func TestReaderIsApart(t *testing.T) {
	b := []byte("\x02ab\x07")
	r, other := Open(b), Open(b)
	fill(b)
	if s, n := r.Text(2), r.Num(); s != "ab" || n != 7 || r.Done() != api.OK {
		t.Errorf("%q %d %d", s, n, r.Err())
	}
	if other.Left() != 4 || other.Text(2) != "ab" {
		t.Error("one reader has moved another one")
	}
}
