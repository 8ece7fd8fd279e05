package wire

import (
	"bytes"
	"math"
	"strings"
	"testing"

	"glebe/api"
)

// edges: numbers on both sides of where one more byte is needed, and the limits.
func edges() []int {
	l := []int{0, 1, 2, 300, 1<<32 - 1, 1 << 32, api.MaxNum - 1, api.MaxNum}
	for groups := 1; groups <= 7; groups++ {
		n := 1 << (7 * groups)
		l = append(l, n-1, n, n+1)
	}
	return l
}

// wordNum: the document's words: groups of seven bits, the lowest first, as few as can be.
func wordNum(n int) []byte {
	groups := 1
	for n>>(7*groups) > 0 {
		groups++
	}
	b := make([]byte, groups)
	for i := range b {
		b[i] = byte(n >> (7 * i) & 127)
		if i < groups-1 {
			b[i] += 128
		}
	}
	return b
}

// P102: Num.
func TestNumKnown(t *testing.T) {
	for n, want := range map[int]string{
		0:              "\x00",
		1:              "\x01",
		127:            "\x7f",
		128:            "\x80\x01",
		300:            "\xac\x02",
		16383:          "\xff\x7f",
		16384:          "\x80\x80\x01",
		1<<49 - 1:      "\xff\xff\xff\xff\xff\xff\x7f",
		1 << 49:        "\x80\x80\x80\x80\x80\x80\x80\x01",
		api.MaxNum - 1: "\xff\xff\xff\xff\xff\xff\xff\x0f",
		api.MaxNum:     "\x80\x80\x80\x80\x80\x80\x80\x10",
	} {
		if b, e := Num(n); e != api.OK || string(b) != want {
			t.Errorf("Num(%d) = %q, %d, want %q", n, b, e, want)
		}
	}
}

func TestNumAsTheWordsSay(t *testing.T) {
	for n := range 1 << 15 {
		if b, e := Num(n); e != api.OK || !bytes.Equal(b, wordNum(n)) {
			t.Fatalf("Num(%d) = %v, %d", n, b, e)
		}
	}
	for _, n := range edges() {
		if b, e := Num(n); e != api.OK || !bytes.Equal(b, wordNum(n)) {
			t.Errorf("Num(%d) = %v, %d", n, b, e)
		}
	}
}

func TestNumRefuses(t *testing.T) {
	for _, n := range []int{-1, -128, math.MinInt, api.MaxNum + 1, 1 << 56, math.MaxInt} {
		if b, e := Num(n); e != api.ErrArg || len(b) > 0 {
			t.Errorf("Num(%d) = %v, %d", n, b, e)
		}
	}
}

// P102: Text.
func TestText(t *testing.T) {
	for _, s := range []string{"", "ab", "\x00", "\xff\xfe", "ü", strings.Repeat("x", 127), strings.Repeat("x", 128), strings.Repeat("y", api.MaxBytes)} {
		want := string(wordNum(len(s))) + s
		if b, e := Text(s); e != api.OK || string(b) != want {
			t.Errorf("a text of %d bytes: %d bytes, %d", len(s), len(b), e)
		}
	}
	if b, e := Text("ab"); e != api.OK || string(b) != "\x02ab" {
		t.Errorf("Text(ab) = %v, %d", b, e)
	}
	if b, e := Text(strings.Repeat("y", api.MaxBytes+1)); e != api.ErrSize || len(b) > 0 {
		t.Errorf("one byte too many: %d bytes, %d", len(b), e)
	}
}

// wordFrame: the document's words.
func wordFrame(kind int, b []byte) []byte {
	n := len(b)
	f := append([]byte{3, byte(kind), byte(n), byte(n >> 8), byte(n >> 16)}, b...)
	s := wordSum(f)
	return append(f, byte(s), byte(s>>8), byte(s>>16), byte(s>>24))
}

// P102: Frame.
func TestFrame(t *testing.T) {
	if Version != 3 {
		t.Errorf("Version %d", Version)
	}
	for _, kind := range []int{0, 1, 127, 128, 255} {
		for _, n := range []int{0, 1, 3, 255, 256, 65535, 65536, api.MaxBytes} {
			b := someBytes(int64(n), n)
			if f, e := Frame(kind, b); e != api.OK || !bytes.Equal(f, wordFrame(kind, b)) {
				t.Errorf("kind %d, %d bytes: %d bytes, %d", kind, n, len(f), e)
			}
		}
	}
	if f, e := Frame(7, nil); e != api.OK || !bytes.Equal(f, wordFrame(7, nil)) {
		t.Errorf("of nil: %v, %d", f, e)
	}
}

func TestFrameRefuses(t *testing.T) {
	long := make([]byte, api.MaxBytes+1)
	for _, kind := range []int{-1, 256, math.MinInt, math.MaxInt} {
		for _, b := range [][]byte{nil, {1}, long} {
			if f, e := Frame(kind, b); e != api.ErrArg || len(f) > 0 {
				t.Errorf("kind %d, %d bytes: %d bytes, %d", kind, len(b), len(f), e)
			}
		}
	}
	for _, kind := range []int{0, 255} {
		if f, e := Frame(kind, long); e != api.ErrSize || len(f) > 0 {
			t.Errorf("kind %d, one byte too many: %d bytes, %d", kind, len(f), e)
		}
	}
}

// refused: Unframe answers that error, and zero beside it.
func refused(t *testing.T, what string, b []byte, want api.Errno) {
	t.Helper()
	if kind, content, e := Unframe(b); e != want || kind != 0 || len(content) > 0 {
		t.Errorf("%s: %d, %d bytes, %d, want %d", what, kind, len(content), e, want)
	}
}

// P103: each error, and which one is told first.
func TestUnframeRefuses(t *testing.T) {
	f := wordFrame(200, []byte("abc"))
	for n := range 5 {
		refused(t, "fewer than five bytes", f[:n], api.ErrEnd)
		refused(t, "fewer than five bytes, none of them right", make([]byte, n), api.ErrEnd)
	}
	refused(t, "nil", nil, api.ErrEnd)
	for n := 5; n < len(f); n++ {
		refused(t, "cut off", f[:n], api.ErrEnd)
	}
	for version := range 256 {
		if version != 3 {
			b := append([]byte{byte(version)}, f[1:]...)
			refused(t, "another version", b, api.ErrForm)
			refused(t, "another version, cut off", b[:5], api.ErrForm)
			refused(t, "another version, and more behind it", append(b, 0), api.ErrForm)
		}
	}
	refused(t, "something behind", append(bytes.Clone(f), 0), api.ErrForm)
	refused(t, "a frame behind", append(bytes.Clone(f), f...), api.ErrForm)
	bad := bytes.Clone(f)
	bad[len(bad)-1] ^= 128
	refused(t, "another sum", bad, api.ErrSum)
	refused(t, "another sum, cut off", bad[:len(bad)-1], api.ErrEnd)
	refused(t, "another sum, something behind", append(bad, 0), api.ErrForm)
	kind := bytes.Clone(f)
	kind[1]++
	refused(t, "another kind", kind, api.ErrSum)
}

func TestUnframeLength(t *testing.T) {
	refused(t, "MaxBytes told", []byte{3, 0, 0, 0, 2}, api.ErrEnd)
	refused(t, "one more told", []byte{3, 0, 1, 0, 2}, api.ErrForm)
	refused(t, "the most told", []byte{3, 0, 255, 255, 255}, api.ErrForm)
	refused(t, "one more told, all of it there", wordFrame(0, make([]byte, api.MaxBytes+1)), api.ErrForm)
	refused(t, "too short a length told", append([]byte{3, 200, 2}, wordFrame(200, []byte("abc"))[3:]...), api.ErrForm)
	refused(t, "too long a length told", append([]byte{3, 200, 4}, wordFrame(200, []byte("abc"))[3:]...), api.ErrEnd)
}

// P105: frames there and back.
func TestFramesThereAndBack(t *testing.T) {
	for _, kind := range []int{0, 1, 8, 128, 255} {
		for _, n := range []int{0, 1, 2, 9, 255, 256, 65536, api.MaxBytes} {
			b := someBytes(int64(kind+n), n)
			f, _ := Frame(kind, b)
			k, content, e := Unframe(f)
			if e != api.OK || k != kind || !bytes.Equal(content, b) {
				t.Errorf("kind %d, %d bytes: %d, %d bytes, %d", kind, n, k, len(content), e)
			}
		}
	}
}

// What Unframe takes, Frame writes just so: of any five bytes and a sum that fits.
func TestFramesBackAndThere(t *testing.T) {
	taken := 0
	for seed := range 2000 {
		b := someBytes(int64(seed), 9)
		b[0] = byte(seed%3) + 2
		b[2], b[3], b[4] = byte(seed%5/4), 0, 0
		if s := wordSum(b[:5]); seed%2 == 0 {
			copy(b[5:], []byte{byte(s), byte(s >> 8), byte(s >> 16), byte(s >> 24)})
		}
		kind, content, e := Unframe(b)
		if e != api.OK {
			continue
		}
		taken++
		if f, e := Frame(kind, content); e != api.OK || !bytes.Equal(f, b) {
			t.Errorf("%v was read, %v is written", b, f)
		}
	}
	if taken == 0 {
		t.Error("nothing was read")
	}
}

// turn: the bits of a mask, from a bit of b on, the lowest one of each byte first.
func turn(b []byte, from int, mask uint32) []byte {
	b = bytes.Clone(b)
	for i := range 32 {
		if at := from + i; mask>>i&1 == 1 && at < 8*len(b) {
			b[at/8] ^= 1 << (at % 8)
		}
	}
	return b
}

// P106: bits of content and sum, turned within 32.
func TestTurnedBits(t *testing.T) {
	for _, n := range []int{0, 1, 3, 40} {
		f, _ := Frame(9, someBytes(int64(n), n))
		for from := 8 * headSize; from < 8*len(f); from++ {
			masks := []uint32{1, 3, 5, 0xff, 0xffff, 0xffffffff, polynomial | 1}
			for i := 1; i < 32; i++ {
				masks = append(masks, 1|1<<i, 1<<i-1, 1|uint32(wordSum([]byte{byte(i), byte(from)})))
			}
			for _, m := range masks {
				refused(t, "bits turned", turn(f, from, m), api.ErrSum)
			}
		}
	}
}

func TestTurnedBitsOfTheLongest(t *testing.T) {
	f, _ := Frame(9, someBytes(9, api.MaxBytes))
	for i, from := range []int{8 * headSize, 8*headSize + 3, 4*len(f) + 1, 8*len(f) - 33, 8*len(f) - 32, 8*len(f) - 1} {
		refused(t, "bits turned", turn(f, from, 1|uint32(wordSum([]byte{byte(i)}))), api.ErrSum)
	}
}

// P101: what is handed in is not changed, nor the room behind it.
func TestArgumentsStay(t *testing.T) {
	room := someBytes(3, 64)
	kept := bytes.Clone(room)
	f, _ := Frame(5, room[:10])
	if !bytes.Equal(room, kept) {
		t.Error("Frame has changed what was handed in, or the room behind it")
	}
	room = append(bytes.Clone(f), someBytes(4, 64)...)
	kept = bytes.Clone(room)
	Unframe(room[:len(f)])
	Unframe(room)
	Open(room[:len(f)]).Text(100)
	if !bytes.Equal(room, kept) {
		t.Error("reading has changed what was handed in, or the room behind it")
	}
}

// P101: what is answered is new memory, its room, too.
func TestAnswersAreApart(t *testing.T) {
	b := someBytes(6, 20)
	f, _ := Frame(5, b)
	want := bytes.Clone(f)
	_, one, _ := Unframe(f)
	_, two, _ := Unframe(f)
	fill(one)
	if !bytes.Equal(two, b) || !bytes.Equal(f, want) {
		t.Error("a content shares memory with a frame, or with another one")
	}
	fill(f)
	if !bytes.Equal(two, b) {
		t.Error("a content changes with its frame")
	}
	g, _ := Frame(5, b)
	fill(b)
	if !bytes.Equal(g, want) {
		t.Error("a frame changes with its content")
	}
	for _, n := range edges() {
		one, _ := Num(n)
		two, _ := Num(n)
		fill(one)
		if !bytes.Equal(two, wordNum(n)) {
			t.Errorf("two answers of Num(%d) share memory", n)
		}
	}
}

// fill: a list and the room behind it.
func fill(b []byte) {
	b = b[:cap(b)]
	for i := range b {
		b[i] = 0x55
	}
}

// P8: the same calls have the same answers.
func TestAgain(t *testing.T) {
	b := someBytes(7, 1000)
	f, e := Frame(5, b)
	for range 3 {
		if g, h := Frame(5, b); h != e || !bytes.Equal(f, g) {
			t.Error("another frame")
		}
		if k, c, h := Unframe(f); h != api.OK || k != 5 || !bytes.Equal(c, b) {
			t.Error("another content")
		}
	}
}
