package wire

import (
	"bytes"
	"math/rand"
	"testing"
)

// wordSum: the document's words, bit by bit.
func wordSum(b []byte) int {
	register := uint32(0xffffffff)
	for _, c := range b {
		for i := range 8 {
			unlike := c>>i&1 != byte(register&1)
			register >>= 1
			if unlike {
				register ^= 3988292384
			}
		}
	}
	return int(^register)
}

// someBytes: the same ones on each run.
func someBytes(seed int64, n int) []byte {
	b := make([]byte, n)
	rand.New(rand.NewSource(seed)).Read(b)
	return b
}

// P102: Sum.
func TestSumKnown(t *testing.T) {
	for s, want := range map[string]int{
		"":                 0,
		"a":                0xe8b7be43,
		"123456789":        0xcbf43926,
		"\x00":             0xd202ef8d,
		"\x00\x00\x00\x00": 0x2144df1c,
		"\xff\xff\xff\xff": 0xffffffff,
	} {
		if got := Sum([]byte(s)); got != want {
			t.Errorf("Sum(%q) = %#x, want %#x", s, got, want)
		}
	}
	if got := Sum(nil); got != 0 {
		t.Errorf("Sum(nil) = %#x", got)
	}
}

func TestSumAsTheWordsSay(t *testing.T) {
	for c := range 256 {
		if b := []byte{byte(c)}; Sum(b) != wordSum(b) {
			t.Errorf("byte %d: %#x, want %#x", c, Sum(b), wordSum(b))
		}
	}
	for n := range 300 {
		if b := someBytes(int64(n), n); Sum(b) != wordSum(b) {
			t.Errorf("%d bytes: %#x, want %#x", n, Sum(b), wordSum(b))
		}
	}
	if b := someBytes(1, 1<<18+3); Sum(b) != wordSum(b) {
		t.Error("long bytes")
	}
}

// P101, P8: pure; what is handed in is not changed.
func TestSumIsPure(t *testing.T) {
	b := someBytes(2, 100)
	kept := bytes.Clone(b)
	first := Sum(b)
	if Sum(b) != first || !bytes.Equal(b, kept) {
		t.Error("another sum, or other bytes, the second time")
	}
}
