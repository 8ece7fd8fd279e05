package path_test

import (
	"math"
	"math/rand"
	"slices"
	"testing"

	"glebe/api"
	"glebe/path"
)

// A path of the model is the list of its halves, the first one first; all that a test asks for is worked out from such lists, as the chapter's words say.

// twoTo: 2 times 2, so many times; 0 of none that can be.
func twoTo(n int) int {
	if n < 0 {
		return 0
	}
	all := 1
	for range n {
		all *= 2
	}
	return all
}

// pathOf: the first half is the highest of so many bits.
func pathOf(w []int) api.Path {
	p, worth := api.Path{Depth: len(w)}, 1
	for _, half := range slices.Backward(w) {
		p.Bits += half * worth
		worth *= 2
	}
	return p
}

// longer: apart from w.
func longer(w []int, half int) []int { return append(slices.Clone(w), half) }

// digitsOf: one of each half.
func digitsOf(w []int) string {
	s := ""
	for _, half := range w {
		s += []string{"0", "1"}[half]
	}
	return s
}

func textOf(w []int) string {
	if len(w) == 0 {
		return "-"
	}
	return digitsOf(w)
}

// read: the path of a text, not by Parse.
func read(t *testing.T, s string) api.Path {
	t.Helper()
	var w []int
	for _, c := range s {
		switch c {
		case '0':
			w = append(w, 0)
		case '1':
			w = append(w, 1)
		default:
			if s != "-" {
				t.Fatalf("no text of a path: %q", s)
			}
		}
	}
	return pathOf(w)
}

// begins: does w begin with all of v?
func begins(v, w []int) bool { return len(v) <= len(w) && slices.Equal(v, w[:len(v)]) }

// together: what both begin with.
func together(v, w []int) []int {
	var l []int
	for i := 0; i < len(v) && i < len(w) && v[i] == w[i]; i++ {
		l = append(l, v[i])
	}
	return l
}

// stand: by the first half that differs; what is above the other one is ahead.
func stand(v, w []int) int { return slices.Compare(v, w) }

// allWords: of at most so many halves.
func allWords(depth int) [][]int {
	l := [][]int{nil}
	for i := 0; len(l[i]) < depth; i++ {
		l = append(l, longer(l[i], 0), longer(l[i], 1))
	}
	return l
}

// someWords: all short ones, and of each length more: all 0, all 1, in turns, and any, the same ones on each run.
func someWords() [][]int {
	l, r := allWords(4), rand.New(rand.NewSource(3))
	for n := 5; n <= 2*api.MaxK; n++ {
		turns, back, any1, any2 := make([]int, n), make([]int, n), make([]int, n), make([]int, n)
		for i := range n {
			turns[i], back[i], any1[i], any2[i] = i%2, 1-i%2, r.Intn(2), r.Intn(2)
		}
		l = append(l, slices.Repeat([]int{0}, n), slices.Repeat([]int{1}, n), turns, back, any1, any2)
	}
	return l
}

// family: of each length what w begins with, that with the last half turned, w with that half turned, and w with more halves behind it.
func family(w []int) [][]int {
	var l [][]int
	for i := range w {
		turned := slices.Clone(w)
		turned[i] = 1 - turned[i]
		l = append(l, slices.Clone(w[:i]), slices.Clone(turned[:i+1]), turned)
	}
	for n := len(w) + 1; n <= 2*api.MaxK; n++ {
		more := append(slices.Clone(w), slices.Repeat([]int{n % 2}, n-len(w))...)
		l = append(l, more)
	}
	return l
}

// edgeBits: where something changes at that depth.
func edgeBits(depth int) []int {
	n := twoTo(depth)
	return []int{math.MinInt, -n - 1, -n, -2, -1, 0, 1, 2, n / 2, n - 2, n - 1, n, n + 1, 2*n - 1, 2 * n, 1 << 31, 1<<32 - 1, 1 << 32, 1<<32 + 1, 1 << 62, math.MaxInt}
}

// noPaths: that may not be at all.
func noPaths() []api.Path {
	var l []api.Path
	for d := range 2*api.MaxK + 1 {
		n := twoTo(d)
		for _, b := range []int{math.MinInt, -1 << 32, -n, -1, n, n + 1, 2 * n, 2*n + 1, 1<<32 + 1, 1 << 62, math.MaxInt} {
			l = append(l, api.Path{Depth: d, Bits: b})
		}
	}
	for _, d := range []int{math.MinInt, math.MinInt + 1, -1 << 32, -64, -33, -32, -2, -1, 33, 34, 62, 63, 64, 65, 96, 128, 256, 1 << 32, 1<<32 + 1, math.MaxInt - 1, math.MaxInt} {
		for _, b := range []int{math.MinInt, -1, 0, 1, 2, 1<<32 - 1, 1 << 32, math.MaxInt} {
			l = append(l, api.Path{Depth: d, Bits: b})
		}
	}
	return l
}

// edgePaths: the least and the greatest of each depth.
func edgePaths() []api.Path {
	l := []api.Path{{}}
	for d := 1; d <= 2*api.MaxK; d++ {
		l = append(l, api.Path{Depth: d}, api.Path{Depth: d, Bits: twoTo(d) - 1})
	}
	return l
}

// wrongKs: of which there is no torus.
func wrongKs() []int {
	return []int{0, -1, -2, -16, -32, -64, math.MinInt, math.MinInt + 1, api.MaxK + 1, api.MaxK + 2, 31, 32, 33, 62, 63, 64, 65, 1 << 32, 1<<32 + 1, math.MaxInt - 1, math.MaxInt}
}

// wrongBits: no halves.
func wrongBits() []int {
	return []int{-1, 2, -2, 3, 4, '0', '1', 256, 1 << 32, 1<<32 + 1, math.MinInt, math.MinInt + 1, math.MaxInt}
}

// allCells: row by row.
func allCells(k int) []api.Point {
	var l []api.Point
	for y := range twoTo(k) {
		for x := range twoTo(k) {
			l = append(l, api.Point{X: x, Y: y})
		}
	}
	return l
}

// edgeNumbers: from 0 to the side less 1, where a half begins or ends.
func edgeNumbers(k int) []int {
	side := twoTo(k)
	l := []int{0, side - 1}
	for _, n := range []int{1, side/4 - 1, side / 4, side/2 - 1, side / 2, 3*side/4 - 1, 3 * side / 4, side - 2, side / 3, side / 5} {
		if 0 < n && n < side-1 {
			l = append(l, n)
		}
	}
	return l
}

// someCells: of those numbers.
func someCells(k int) []api.Point {
	var l []api.Point
	for _, x := range edgeNumbers(k) {
		for _, y := range edgeNumbers(k) {
			l = append(l, api.Point{X: x, Y: y})
		}
	}
	return l
}

// noCells: points of which one number, or both, are outside.
func noCells(k int) []api.Point {
	var l []api.Point
	side := twoTo(k)
	for _, o := range []int{-1, -2, -side, side, side + 1, 2 * side, 1 << 32, 1<<32 + 1, -1 << 32, math.MinInt, math.MaxInt} {
		for _, n := range edgeNumbers(k) {
			l = append(l, api.Point{X: o, Y: n}, api.Point{X: n, Y: o})
		}
		l = append(l, api.Point{X: o, Y: o}, api.Point{X: o, Y: -1}, api.Point{X: side, Y: o})
	}
	return l
}

// wayTo: the halves, one after the other, in which the cell lies.
func wayTo(k int, c api.Point, depth int) []int {
	var w []int
	left, wide, low, high := 0, twoTo(k), 0, twoTo(k)
	for len(w) < depth {
		at, from, size := c.Y, &low, &high
		if len(w)%2 == 0 {
			at, from, size = c.X, &left, &wide
		}
		*size /= 2
		if at >= *from+*size {
			*from += *size
			w = append(w, 1)
		} else {
			w = append(w, 0)
		}
	}
	return w
}

// zone: the cells that are left, row by row, when half by half those that are not in it are taken away.
func zone(k int, w []int) []api.Point {
	l := allCells(k)
	for i, half := range w {
		of := func(c api.Point) int { return c.X }
		if i%2 == 1 {
			of = func(c api.Point) int { return c.Y }
		}
		least, most := of(l[0]), of(l[len(l)-1])
		upper := (least + most + 1) / 2
		l = slices.DeleteFunc(l, func(c api.Point) bool { return (of(c) >= upper) != (half == 1) })
	}
	return l
}

// everySecond: from the one at that place on.
func everySecond(w []int, from int) []int {
	var l []int
	for i := from; i < len(w); i += 2 {
		l = append(l, w[i])
	}
	return l
}

// span: where the halves of a side lead to, and how much is left there.
func span(side int, w []int) (from, size int) {
	size = side
	for _, half := range w {
		size /= 2
		if half == 1 {
			from += size
		}
	}
	return from, size
}

// paths: of the words, sorted by Compare.
func paths(l [][]int) []api.Path {
	out := make([]api.Path, len(l))
	for i, w := range l {
		out[i] = pathOf(w)
	}
	slices.SortFunc(out, path.Compare)
	return slices.Compact(out)
}
