package path_test

import (
	"math"
	"slices"
	"strings"
	"testing"

	"glebe/api"
	"glebe/path"
	"glebe/torus"
)

// P302: Right, of each k and each depth, at the edges of Bits.
func TestRight(t *testing.T) {
	for k := 1; k <= api.MaxK; k++ {
		for d := -3; d <= 2*api.MaxK+3; d++ {
			for _, b := range edgeBits(d) {
				p := api.Path{Depth: d, Bits: b}
				want := 0 <= d && d <= 2*k && 0 <= b && b < twoTo(d)
				if got := path.Right(k, p); got != want {
					t.Errorf("Right(%d, %v) = %v", k, p, got)
				}
			}
		}
		for _, p := range noPaths() {
			if path.Right(k, p) {
				t.Errorf("Right(%d, %v)", k, p)
			}
		}
	}
}

func TestRightOfNoK(t *testing.T) {
	for _, k := range wrongKs() {
		for _, p := range append(edgePaths(), noPaths()...) {
			if path.Right(k, p) {
				t.Errorf("Right(%d, %v)", k, p)
			}
		}
	}
}

// child: what Child of p has to answer.
func child(t *testing.T, p api.Path, bit int, want api.Path, e api.Errno) {
	t.Helper()
	if c, f := path.Child(p, bit); c != want || f != e {
		t.Errorf("Child(%v, %d) = %v, %d, want %v, %d", p, bit, c, f, want, e)
	}
}

// P302: Child, and which of its errors is ahead.
func TestChild(t *testing.T) {
	for _, w := range someWords() {
		p := pathOf(w)
		for _, bit := range []int{0, 1} {
			if len(w) == 2*api.MaxK {
				child(t, p, bit, api.Path{}, api.ErrCell)
			} else {
				child(t, p, bit, pathOf(longer(w, bit)), api.OK)
			}
		}
		for _, bit := range wrongBits() {
			child(t, p, bit, api.Path{}, api.ErrArg)
		}
	}
	for _, p := range noPaths() {
		for _, bit := range append(wrongBits(), 0, 1) {
			child(t, p, bit, api.Path{}, api.ErrArg)
		}
	}
}

// P302: Parent and Sibling.
func TestParentAndSibling(t *testing.T) {
	for _, w := range someWords() {
		p := pathOf(w)
		var above, beside api.Path
		if len(w) > 0 {
			last := len(w) - 1
			above, beside = pathOf(w[:last]), pathOf(longer(w[:last], 1-w[last]))
		}
		if q, ok := path.Parent(p); q != above || ok != (len(w) > 0) {
			t.Errorf("Parent(%v) = %v, %v", p, q, ok)
		}
		if q, ok := path.Sibling(p); q != beside || ok != (len(w) > 0) {
			t.Errorf("Sibling(%v) = %v, %v", p, q, ok)
		}
	}
}

// P302: Bit and Last.
func TestBitAndLast(t *testing.T) {
	for _, w := range someWords() {
		p, last := pathOf(w), -1
		for i, half := range w {
			if b := path.Bit(p, i); b != half {
				t.Errorf("Bit(%v, %d) = %d", p, i, b)
			}
			last = half
		}
		if b := path.Last(p); b != last {
			t.Errorf("Last(%v) = %d", p, b)
		}
		for _, i := range []int{-1, -2, -p.Depth - 1, p.Depth, p.Depth + 1, 32, 33, 63, 64, 65, 1 << 32, math.MinInt, math.MaxInt} {
			if b := path.Bit(p, i); b != -1 && (i < 0 || i >= len(w)) {
				t.Errorf("Bit(%v, %d) = %d", p, i, b)
			}
		}
	}
}

// P301: the calls of one path that may not be at all.
func TestOfNoPath(t *testing.T) {
	for _, p := range noPaths() {
		if q, ok := path.Parent(p); ok || q != (api.Path{}) {
			t.Errorf("Parent(%v) = %v, %v", p, q, ok)
		}
		if q, ok := path.Sibling(p); ok || q != (api.Path{}) {
			t.Errorf("Sibling(%v) = %v, %v", p, q, ok)
		}
		for _, i := range []int{math.MinInt, -1, 0, 1, p.Depth - 1, p.Depth, 31, 32, math.MaxInt} {
			if b := path.Bit(p, i); b != -1 {
				t.Errorf("Bit(%v, %d) = %d", p, i, b)
			}
		}
		if b := path.Last(p); b != -1 {
			t.Errorf("Last(%v) = %d", p, b)
		}
		if s := path.Print(p); s != "" {
			t.Errorf("Print(%v) = %q", p, s)
		}
		for k := 1; k <= api.MaxK; k++ {
			cornerIs(t, torus.Torus{K: k}, p, api.Point{}, 0, 0)
		}
	}
}

// nothing: of two paths, of which one at least may not be at all.
func nothing(t *testing.T, p, q api.Path) {
	t.Helper()
	if path.Above(p, q) || path.Meet(p, q) || path.Common(p, q) != (api.Path{}) || path.Compare(p, q) != 0 {
		t.Errorf("%v, %v: Above %v, Meet %v, Common %v, Compare %d", p, q, path.Above(p, q), path.Meet(p, q), path.Common(p, q), path.Compare(p, q))
	}
}

// P301, P303: two paths, of which one may not be at all, or both.
func TestOfNoPathAndAnother(t *testing.T) {
	for _, o := range noPaths() {
		nothing(t, o, o)
		for _, p := range edgePaths() {
			nothing(t, o, p)
			nothing(t, p, o)
		}
		for _, p := range noPaths() {
			nothing(t, o, p)
		}
	}
}

// pair: what P303 says of two paths, by their halves.
func pair(t *testing.T, v, w []int) {
	t.Helper()
	p, q := pathOf(v), pathOf(w)
	if got := path.Above(p, q); got != begins(v, w) {
		t.Fatalf("Above(%v, %v) = %v", p, q, got)
	}
	if got := path.Meet(p, q); got != (begins(v, w) || begins(w, v)) {
		t.Fatalf("Meet(%v, %v) = %v", p, q, got)
	}
	if got := path.Common(p, q); got != pathOf(together(v, w)) {
		t.Fatalf("Common(%v, %v) = %v", p, q, got)
	}
	if got := path.Compare(p, q); got != stand(v, w) {
		t.Fatalf("Compare(%v, %v) = %d", p, q, got)
	}
}

// P303: two paths.
func TestTwoPaths(t *testing.T) {
	short := allWords(5)
	for _, v := range short {
		for _, w := range short {
			pair(t, v, w)
		}
	}
	for _, w := range someWords() {
		for _, v := range family(w) {
			pair(t, v, w)
			pair(t, w, v)
		}
		pair(t, w, w)
	}
}

func TestTwoPathsKnown(t *testing.T) {
	for _, c := range []struct {
		p, q, common string
		above, meet  bool
		compare      int
	}{
		{"-", "-", "-", true, true, 0},
		{"-", "0", "-", true, true, -1},
		{"1", "-", "-", false, true, 1},
		{"0", "1", "-", false, false, -1},
		{"1", "01", "-", false, false, 1},
		{"01", "1", "-", false, false, -1},
		{"0", "00", "0", true, true, -1},
		{"10", "1", "1", false, true, 1},
		{"100", "11", "1", false, false, -1},
		{"101", "101", "101", true, true, 0},
		{"0110", "0101", "01", false, false, 1},
		{"000", "001", "00", false, false, -1},
		{strings.Repeat("0", 32), strings.Repeat("0", 31) + "1", strings.Repeat("0", 31), false, false, -1},
		{strings.Repeat("1", 32), "1", "1", false, true, 1},
		{strings.Repeat("1", 32), "0", "-", false, false, 1},
	} {
		p, q := read(t, c.p), read(t, c.q)
		if path.Above(p, q) != c.above || path.Meet(p, q) != c.meet || path.Common(p, q) != read(t, c.common) || path.Compare(p, q) != c.compare {
			t.Errorf("%s, %s: Above %v, Meet %v, Common %v, Compare %d", c.p, c.q, path.Above(p, q), path.Meet(p, q), path.Common(p, q), path.Compare(p, q))
		}
	}
}

// atIs: what At has to answer.
func atIs(t *testing.T, x torus.Torus, c api.Point, depth int, want api.Path, e api.Errno) {
	t.Helper()
	if p, f := path.At(x, c, depth); p != want || f != e {
		t.Fatalf("At(%v, %v, %d) = %v, %d, want %v, %d", x, c, depth, p, f, want, e)
	}
}

// P303: At.
func TestAt(t *testing.T) {
	for k := 1; k <= api.MaxK; k++ {
		x, l := torus.Torus{K: k}, someCells(k)
		if k <= 4 {
			l = allCells(k)
		}
		for _, c := range l {
			for depth := range 2*k + 1 {
				atIs(t, x, c, depth, pathOf(wayTo(k, c, depth)), api.OK)
			}
			for _, depth := range []int{-1, -2, 2*k + 1, 2*k + 2, 2*api.MaxK + 1, 64, 1 << 32, math.MinInt, math.MaxInt} {
				atIs(t, x, c, depth, api.Path{}, api.ErrArg)
			}
		}
	}
}

func TestAtOfNoCell(t *testing.T) {
	for k := 1; k <= api.MaxK; k++ {
		for _, c := range noCells(k) {
			for _, depth := range []int{0, 1, 2, 2 * k, 2*k + 1, -1} {
				atIs(t, torus.Torus{K: k}, c, depth, api.Path{}, api.ErrArg)
			}
		}
	}
	for _, k := range wrongKs() {
		for _, c := range append(allCells(1), noCells(1)...) {
			for _, depth := range []int{-1, 0, 1, 2, 2 * api.MaxK, math.MinInt, math.MaxInt} {
				atIs(t, torus.Torus{K: k}, c, depth, api.Path{}, api.ErrArg)
			}
		}
	}
}

// cornerIs: what Corner has to answer.
func cornerIs(t *testing.T, x torus.Torus, p api.Path, want api.Point, wide, high int) {
	t.Helper()
	if c, w, h := path.Corner(x, p); c != want || w != wide || h != high {
		t.Fatalf("Corner(%v, %v) = %v, %d, %d, want %v, %d, %d", x, p, c, w, h, want, wide, high)
	}
}

// P303: Corner, by the cells that are left.
func TestCornerByCells(t *testing.T) {
	for k := 1; k <= 3; k++ {
		for _, w := range allWords(2 * k) {
			l := zone(k, w)
			least, most := l[0], l[len(l)-1] // row by row
			cornerIs(t, torus.Torus{K: k}, pathOf(w), least, most.X-least.X+1, most.Y-least.Y+1)
			if len(l) != (most.X-least.X+1)*(most.Y-least.Y+1) {
				t.Fatalf("%v has %d cells", w, len(l))
			}
		}
	}
}

// P303: Corner, of any K: in each direction so many halvings of the side.
func TestCorner(t *testing.T) {
	for k := 1; k <= api.MaxK; k++ {
		x := torus.Torus{K: k}
		for _, w := range someWords() {
			if len(w) > 2*k {
				cornerIs(t, x, pathOf(w), api.Point{}, 0, 0)
				continue
			}
			left, wide := span(twoTo(k), everySecond(w, 0))
			low, high := span(twoTo(k), everySecond(w, 1))
			cornerIs(t, x, pathOf(w), api.Point{X: left, Y: low}, wide, high)
		}
	}
}

func TestCornerOfNoTorus(t *testing.T) {
	for _, k := range wrongKs() {
		for _, p := range append(edgePaths(), noPaths()...) {
			cornerIs(t, torus.Torus{K: k}, p, api.Point{}, 0, 0)
		}
	}
}

// The chapter's example, a zone whose width and height are unlike, and one of a single cell.
func TestAtAndCornerKnown(t *testing.T) {
	for _, c := range []struct {
		k      int
		cell   api.Point
		text   string
		corner api.Point
		w, h   int
	}{
		{2, api.Point{X: 3, Y: 1}, "101", api.Point{X: 3}, 1, 2},
		{2, api.Point{X: 3, Y: 1}, "-", api.Point{}, 4, 4},
		{2, api.Point{X: 3, Y: 1}, "1", api.Point{X: 2}, 2, 4},
		{2, api.Point{X: 3, Y: 1}, "10", api.Point{X: 2}, 2, 2},
		{2, api.Point{X: 3, Y: 1}, "1011", api.Point{X: 3, Y: 1}, 1, 1},
		{1, api.Point{X: 0, Y: 1}, "01", api.Point{Y: 1}, 1, 1},
		{1, api.Point{X: 1, Y: 0}, "10", api.Point{X: 1}, 1, 1},
		{3, api.Point{X: 1, Y: 6}, "0101", api.Point{Y: 6}, 2, 2},
		{16, api.Point{X: 32768, Y: 32767}, "10", api.Point{X: 32768}, 32768, 32768},
		{16, api.Point{X: 65535, Y: 65535}, strings.Repeat("1", 32), api.Point{X: 65535, Y: 65535}, 1, 1},
		{16, api.Point{X: 65535}, strings.Repeat("10", 16), api.Point{X: 65535}, 1, 1},
		{16, api.Point{Y: 65535}, strings.Repeat("01", 15) + "0", api.Point{Y: 65534}, 1, 2},
	} {
		p := read(t, c.text)
		atIs(t, torus.Torus{K: c.k}, c.cell, p.Depth, p, api.OK)
		cornerIs(t, torus.Torus{K: c.k}, p, c.corner, c.w, c.h)
	}
}

// P304: Print.
func TestPrint(t *testing.T) {
	for _, w := range someWords() {
		if s := path.Print(pathOf(w)); s != textOf(w) {
			t.Errorf("Print(%v) = %q, want %q", pathOf(w), s, textOf(w))
		}
	}
	if s := path.Print(api.Path{Depth: 3, Bits: 5}); s != "101" {
		t.Errorf("Print of 101: %q", s)
	}
}

// P304: Parse.
func TestParse(t *testing.T) {
	for _, w := range someWords() {
		if p, ok := path.Parse(textOf(w)); p != pathOf(w) || !ok {
			t.Errorf("Parse(%q) = %v, %v", textOf(w), p, ok)
		}
	}
	for s, want := range map[string]api.Path{
		"-": {}, "0": {Depth: 1}, "1": {Depth: 1, Bits: 1}, "001": {Depth: 3, Bits: 1}, "110": {Depth: 3, Bits: 6},
		strings.Repeat("0", 32): {Depth: 32}, strings.Repeat("1", 32): {Depth: 32, Bits: 1<<32 - 1},
	} {
		if p, ok := path.Parse(s); p != want || !ok {
			t.Errorf("Parse(%q) = %v, %v", s, p, ok)
		}
	}
}

// noText: Parse has to answer nothing of the text.
func noText(t *testing.T, s string) {
	t.Helper()
	if p, ok := path.Parse(s); ok || p != (api.Path{}) {
		t.Errorf("Parse(%q) = %v, %v", s[:min(len(s), 80)], p, ok)
	}
}

func TestParseRefuses(t *testing.T) {
	for _, s := range []string{
		"", "--", "-0", "0-", "-1", "1-", "0-1", "+1", "2", "02", "012", "9", " ", " 0", "0 ", "0 1", "1\n", "\n1", "0x1", "0b1", "1_0", "1.0",
		"\x00", "\x00\x01", "0\x00", "１", "0１", "é", "\x80", "\xb0", "\xb1", "0\xff", "O", "l", "–", "−",
	} {
		noText(t, s)
	}
	for _, n := range []int{2*api.MaxK + 1, 2*api.MaxK + 2, 63, 64, 65, 66, 96, 256, 1000, 1 << 17} {
		for _, half := range []string{"0", "1", "-"} {
			noText(t, strings.Repeat(half, n))
			noText(t, strings.Repeat("0", n-1)+half)
			noText(t, half+strings.Repeat("0", n-1))
		}
	}
}

// Each sign that there is, alone and among halves.
func TestParseSigns(t *testing.T) {
	for c := range 256 {
		s := string([]byte{byte(c)})
		if s == "0" || s == "1" {
			continue
		}
		for _, w := range [][]int{{0}, {1}, {1, 0}, {0, 1, 1}, slices.Repeat([]int{1}, 31), slices.Repeat([]int{0}, 31)} {
			noText(t, s+digitsOf(w))
			noText(t, digitsOf(w)+s)
			noText(t, digitsOf(w[:1])+s+digitsOf(w[1:]))
		}
		if s != "-" {
			noText(t, s)
		}
	}
}
