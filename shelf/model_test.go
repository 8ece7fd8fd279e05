package shelf_test

import (
	"bytes"
	"math"
	"math/rand"
	"slices"
	"strconv"
	"strings"
	"testing"

	"glebe/api"
	"glebe/point"
	"glebe/session"
	"glebe/shelf"
	"glebe/torus"
	"glebe/window"
	"glebe/wire"
)

// A shelf is to the model a plain list of records and one of answers, in the order in which they came, beside its k and its zone's halves as a text.
type plain struct {
	k    int
	zone string
	recs []point.Rec
	told []note
}

type note struct {
	client, seq int
	a           point.Ans
}

const (
	clients   = 8
	mostRecs  = 64
	mostTaken = 512
	lastSeq   = 1099511627776
)

// pathOf: of halves that are written as digits, as many as may be.
func pathOf(text string) api.Path {
	p := api.Path{Depth: len(text)}
	for i := range len(text) {
		p.Bits = 2*p.Bits + int(text[i]-'0')
	}
	return p
}

// deep: a text of so many halves, these over and over.
func deep(n int, halves string) string {
	text := ""
	for i := range n {
		text += halves[i%len(halves) : i%len(halves)+1]
	}
	return text
}

func cell(x, y int) api.Point { return api.Point{X: x, Y: y} }

// area: the zone's cells.
func area(k int, zone string) window.Rect {
	r, _ := window.Of(torus.Torus{K: k}, pathOf(zone))
	return r
}

func (m *plain) has(at api.Point) bool { return window.Has(area(m.k, m.zone), at) }

func (m *plain) place(at api.Point, key string) int {
	return slices.IndexFunc(m.recs, func(r point.Rec) bool { return r.At == at && r.Key == key })
}

func (m *plain) get(at api.Point, key string) point.Ans {
	if !m.has(at) {
		return point.Ans{E: api.ErrArg}
	}
	i := m.place(at, key)
	if i < 0 {
		return point.Ans{}
	}
	return point.Ans{Found: true, Value: m.recs[i].Value, Ver: m.recs[i].Ver}
}

// last: what was noted of the client with the greatest Seq; of two of one Seq the one that came first.
func (m *plain) last(client int) note {
	var last note
	for _, n := range m.told {
		if n.client == client && n.seq > last.seq {
			last = n
		}
	}
	return last
}

func (m *plain) look(client, seq int) (int, point.Ans) {
	if client < 0 || client >= clients || seq < 1 || seq > lastSeq {
		return 0, point.Ans{}
	}
	switch last := m.last(client); {
	case seq > last.seq:
		return session.Fresh, point.Ans{}
	case seq < last.seq:
		return session.Past, point.Ans{}
	default:
		return session.Again, last.a
	}
}

func (m *plain) apply(o point.Op) (point.Ans, api.Errno) {
	if !point.RightOp(o) || !m.has(o.At) {
		return point.Ans{}, api.ErrArg
	}
	if look, _ := m.look(o.Client, o.Seq); look != session.Fresh {
		return point.Ans{}, api.ErrStale
	}
	a := m.answer(o)
	m.told = append(m.told, note{o.Client, o.Seq, a})
	return a, api.OK
}

func (m *plain) answer(o point.Op) point.Ans {
	a, i := m.get(o.At, o.Key), m.place(o.At, o.Key)
	switch {
	case o.Kind == point.Put && i < 0:
		return m.more(o)
	case o.Kind == point.Put && m.recs[i].Ver == lastSeq:
		return point.Ans{E: api.ErrFull}
	case o.Kind == point.Put:
		m.recs[i].Value = o.Value
		m.recs[i].Ver++
		a.Ver++
	case o.Kind == point.Del && i >= 0:
		m.recs = slices.Delete(m.recs, i, i+1)
	}
	return a
}

// more: a record that was not there.
func (m *plain) more(o point.Op) point.Ans {
	if len(m.recs) >= mostRecs {
		return point.Ans{E: api.ErrFull}
	}
	m.recs = append(m.recs, point.Rec{At: o.At, Key: o.Key, Value: o.Value, Ver: 1})
	return point.Ans{}
}

// in: nothing of a rectangle whose numbers may not be, since Has of it is false.
func (m *plain) in(r window.Rect) []point.Rec {
	l := slices.DeleteFunc(slices.Clone(m.recs), func(x point.Rec) bool { return !window.Has(r, x.At) })
	slices.SortFunc(l, point.Compare)
	return l
}

func (m *plain) copyOf() *plain {
	return &plain{k: m.k, zone: m.zone, recs: slices.Clone(m.recs), told: slices.Clone(m.told)}
}

// part: of a zone below.
func (m *plain) part(zone string) *plain {
	return &plain{k: m.k, zone: zone, recs: m.in(area(m.k, zone)), told: slices.Clone(m.told)}
}

// join: of the other half's; one list behind the other.
func (m *plain) join(o *plain) *plain {
	return &plain{k: m.k, zone: m.zone[:len(m.zone)-1], recs: slices.Concat(m.recs, o.recs), told: slices.Concat(m.told, o.told)}
}

// num: a number's bytes.
func num(n int) []byte {
	b, _ := wire.Num(n)
	return b
}

func recBytes(r point.Rec) []byte {
	b, _ := point.PutRec(r)
	return b
}

// toldBytes: of each client the Seq, and the answer, where there is one.
func (m *plain) toldBytes() []byte {
	var b []byte
	for client := range clients {
		last := m.last(client)
		b = append(b, num(last.seq)...)
		if last.seq != 0 {
			a, _ := point.PutAns(last.a)
			b = append(b, a...)
		}
	}
	return b
}

func (m *plain) bytes() []byte {
	b := append(m.toldBytes(), num(len(m.recs))...)
	for _, r := range m.in(area(m.k, m.zone)) {
		b = append(b, recBytes(r)...)
	}
	return b
}

// alike: do both tell the same?
func (m *plain) alike(o *plain) bool {
	return m.k == o.k && m.zone == o.zone && bytes.Equal(m.bytes(), o.bytes())
}

// read: what the chapter's words say of a Take of these bytes: the lists (nil with an error), how many bytes are left, and the reader's error.
func read(b []byte, k int, zone string) (*plain, int, api.Errno) {
	m, r := &plain{k: k, zone: zone}, wire.Open(b)
	for client := range clients {
		seq := r.Upto(lastSeq)
		if seq > 0 {
			m.told = append(m.told, note{client, seq, point.TakeAns(r)})
		}
	}
	for i := range r.Upto(mostTaken) {
		x := point.TakeRec(r)
		if !m.has(x.At) || i > 0 && point.Compare(m.recs[i-1], x) >= 0 {
			r.Fail(api.ErrForm)
		}
		if r.Err() != api.OK {
			break
		}
		m.recs = append(m.recs, x)
	}
	if r.Err() != api.OK {
		return nil, 0, r.Err()
	}
	return m, r.Left(), api.OK
}

// someRects: the zone, what is beside it, parts of it, single cells, and such as nothing is in.
func (m *plain) someRects() []window.Rect {
	z := area(m.k, m.zone)
	l := []window.Rect{
		z, {}, {W: 1 << m.k, H: 1 << m.k}, {W: 1 << 30, H: 1 << 30}, {X: z.X, Y: z.Y, W: 1, H: 1}, {X: z.X + z.W, Y: z.Y, W: z.W, H: z.H},
		{X: z.X + z.W/2, Y: z.Y, W: z.W, H: z.H}, {X: z.X, Y: z.Y + z.H/2, W: z.W, H: z.H}, {X: z.X, Y: z.Y, W: z.W, H: z.H - 1},
		{X: -1, Y: z.Y, W: 1 << 20, H: z.H}, {X: z.X, Y: z.Y, W: 1<<30 + 1, H: z.H}, {X: math.MinInt, Y: math.MaxInt, W: math.MaxInt, H: math.MinInt},
	}
	for i := range min(len(m.recs), 3) {
		at := m.recs[i].At
		l = append(l, window.Rect{X: at.X, Y: at.Y, W: 1, H: 1}, window.Rect{X: z.X, Y: z.Y, W: z.W, H: at.Y - z.Y})
	}
	return l
}

// outside: cells beside the zone, on the torus and off it.
func (m *plain) outside() []api.Point {
	z, side := area(m.k, m.zone), 1<<m.k
	l := []api.Point{
		cell(z.X-1, z.Y), cell(z.X, z.Y-1), cell(z.X+z.W, z.Y), cell(z.X, z.Y+z.H), cell(z.X+side, z.Y), cell(z.X, z.Y-side), cell(side, side), cell(-1, -1),
		cell(math.MinInt, z.Y), cell(z.X, math.MinInt), cell(math.MaxInt, z.Y), cell(z.X, math.MaxInt), cell(z.X+1<<32, z.Y+1<<48),
	}
	return slices.DeleteFunc(l, m.has)
}

// tellsRecs: Get, In, Len and Zone tell what the list tells.
func tellsRecs(t *testing.T, x *shelf.Shelf, m *plain) {
	t.Helper()
	if p, n := x.Zone(), x.Len(); p != pathOf(m.zone) || n != len(m.recs) {
		t.Fatalf("K %d, zone %q, of %v: Zone() = %v, Len() = %d", m.k, m.zone, m.recs, p, n)
	}
	for _, r := range m.someRects() {
		if l, want := x.In(r), m.in(r); !slices.Equal(l, want) {
			t.Fatalf("K %d, zone %q, of %v: In(%v) = %v, want %v", m.k, m.zone, m.recs, r, l, want)
		}
	}
	for _, r := range m.recs {
		for _, key := range []string{r.Key, r.Key + "\x00", r.Key[1:], "a"} {
			getIs(t, x, r.At, key, m.get(r.At, key))
		}
	}
	z := area(m.k, m.zone)
	for _, at := range append(m.outside(), cell(z.X, z.Y), cell(z.X+z.W-1, z.Y+z.H-1)) {
		getIs(t, x, at, "a", m.get(at, "a"))
	}
}

// tellsAnswers: Look tells what the list tells.
func tellsAnswers(t *testing.T, x *shelf.Shelf, m *plain) {
	t.Helper()
	for client := -1; client <= clients; client++ {
		noted := m.last(client).seq
		for _, seq := range []int{-1, 0, 1, noted - 1, noted, noted + 1, lastSeq, lastSeq + 1} {
			look, a := m.look(client, seq)
			lookIs(t, x, client, seq, look, a)
		}
	}
}

// tells: the shelf tells what the lists tell.
func tells(t *testing.T, x *shelf.Shelf, m *plain) {
	t.Helper()
	if x == nil {
		t.Fatalf("K %d, zone %q: no shelf of %v and %v", m.k, m.zone, m.recs, m.told)
	}
	tellsRecs(t, x, m)
	tellsAnswers(t, x, m)
	if b, want := x.Put(), m.bytes(); !bytes.Equal(b, want) {
		t.Fatalf("K %d, zone %q, of %v and %v: Put() = %v, want %v", m.k, m.zone, m.recs, m.told, b, want)
	}
}

// getIs: what Get has to answer.
func getIs(t *testing.T, x *shelf.Shelf, at api.Point, key string, want point.Ans) {
	t.Helper()
	if a := x.Get(at, key); a != want {
		t.Fatalf("zone %v: Get(%v, %q) = %v, want %v", x.Zone(), at, key, a, want)
	}
}

// lookIs: what Look has to answer.
func lookIs(t *testing.T, x *shelf.Shelf, client, seq, want int, told point.Ans) {
	t.Helper()
	if look, a := x.Look(client, seq); look != want || a != told {
		t.Fatalf("Look(%d, %d) = %d, %v, want %d, %v", client, seq, look, a, want, told)
	}
}

// applied: the call is answered so, by the lists as well, and does the same to both.
func applied(t *testing.T, x *shelf.Shelf, m *plain, o point.Op, want point.Ans, wantE api.Errno) {
	t.Helper()
	if a, e := m.apply(o); a != want || e != wantE {
		t.Fatalf("in the lists, Apply of %v: %v, %d, want %v, %d", o, a, e, want, wantE)
	}
	if a, e := x.Apply(o); a != want || e != wantE {
		t.Fatalf("K %d, zone %q, then %v and %v: Apply of %v: %v, %d, want %v, %d", m.k, m.zone, m.recs, m.told, o, a, e, want, wantE)
	}
	tells(t, x, m)
}

// applies: likewise, whatever the lists say of it.
func applies(t *testing.T, x *shelf.Shelf, m *plain, o point.Op) (point.Ans, api.Errno) {
	t.Helper()
	a, e := m.copyOf().apply(o)
	applied(t, x, m, o, a, e)
	return a, e
}

// made: a shelf of nothing, and the lists of the same.
func made(t *testing.T, k int, zone string) (*shelf.Shelf, *plain) {
	t.Helper()
	x, e := shelf.New(k, pathOf(zone))
	if e != api.OK || x == nil {
		t.Fatalf("New(%d, %q): %v, %d", k, zone, x, e)
	}
	return x, &plain{k: k, zone: zone}
}

// shelved: a shelf of what is in the lists.
func shelved(t *testing.T, m *plain) *shelf.Shelf {
	t.Helper()
	r := wire.Open(m.bytes())
	x := shelf.Take(r, m.k, pathOf(m.zone))
	if e := r.Done(); e != api.OK {
		t.Fatalf("K %d, zone %q, of %v and %v: Take: %d", m.k, m.zone, m.recs, m.told, e)
	}
	tells(t, x, m)
	return x
}

// full: a list of so many records of the zone, and an answer of each other client.
func full(k int, zone string, n int) *plain {
	m := &plain{k: k, zone: zone}
	z := area(k, zone)
	for i := range n {
		at := cell(z.X+i*7%z.W, z.Y+i*5%z.H)
		m.recs = append(m.recs, point.Rec{At: at, Key: "k" + strconv.Itoa(i), Value: strconv.Itoa(i), Ver: 1 + i})
	}
	for client := 0; client < clients; client += 2 {
		m.told = append(m.told, note{client, 10 + client, point.Ans{Found: true, Value: "told", Ver: 1 + client}})
	}
	return m
}

// calls are written shortly, of client 0 and Seq 1; by tells who asks, and when.
func put(at api.Point, key, value string) point.Op {
	return point.Op{Kind: point.Put, At: at, Key: key, Value: value, Seq: 1}
}

func get(at api.Point, key string) point.Op {
	return point.Op{Kind: point.Get, At: at, Key: key, Seq: 1}
}

func del(at api.Point, key string) point.Op {
	return point.Op{Kind: point.Del, At: at, Key: key, Seq: 1}
}

func by(client, seq int, o point.Op) point.Op {
	o.Client, o.Seq = client, seq
	return o
}

// told: an answer of what was found.
func told(value string, ver int) point.Ans { return point.Ans{Found: true, Value: value, Ver: ver} }

// someZones: the whole torus, halves, and some of each kind of depth.
func someZones(k int) []string {
	l := []string{"", "0", "1", "10", deep(k, "01"), deep(2*k-1, "1"), deep(2*k, "011")}
	slices.Sort(l)
	return slices.Compact(l)
}

func wrongKs() []int {
	return []int{0, -1, -2, 17, 32, 64, -64, math.MaxInt, math.MinInt, 1 << 32, 1<<32 + 1}
}

// wrongPaths: none of them may be of k.
func wrongPaths(k int) []api.Path {
	return []api.Path{
		{Depth: 2*k + 1}, {Depth: -1}, {Depth: -1, Bits: 1}, {Depth: 0, Bits: 1}, {Depth: 0, Bits: -1}, {Depth: 1, Bits: 2}, {Depth: 1, Bits: -1}, {Depth: 2 * k, Bits: 1 << (2 * k)},
		{Depth: 33}, {Depth: 63}, {Depth: 64}, {Depth: math.MaxInt, Bits: math.MaxInt}, {Depth: math.MinInt, Bits: math.MinInt}, {Depth: 1, Bits: math.MinInt}, {Depth: 2, Bits: math.MaxInt},
	}
}

// wrongOps: none of them may be, wherever the cell is.
func wrongOps(at api.Point) []point.Op {
	l := []point.Op{get(at, ""), get(at, strings.Repeat("k", 17)), put(at, "k", strings.Repeat("v", 33)), put(at, "k", strings.Repeat("v", 1<<17))}
	for _, kind := range []int{0, 4, -1, math.MinInt, math.MaxInt} {
		o := get(at, "k")
		o.Kind = kind
		l = append(l, o)
	}
	for _, kind := range []int{point.Get, point.Del} {
		o := put(at, "k", "v")
		o.Kind = kind
		l = append(l, o)
	}
	for _, client := range []int{-1, clients, math.MinInt, math.MaxInt} {
		l = append(l, by(client, 1, put(at, "k", "v")))
	}
	for _, seq := range []int{0, -1, lastSeq + 1, math.MinInt, math.MaxInt} {
		l = append(l, by(0, seq, put(at, "k", "v")), by(7, seq, del(at, "k")))
	}
	return l
}

func someText(r *rand.Rand, n int) string {
	b := make([]byte, n)
	r.Read(b)
	return string(b)
}

// someCell: of the zone, most often one of a few that lie close to one another, at either end.
func someCell(r *rand.Rand, z window.Rect) api.Point {
	near := func(from, size int) int {
		switch r.Intn(6) {
		case 0:
			return from + r.Intn(size)
		case 1, 2:
			return from + size - 1 - r.Intn(min(size, 2))
		}
		return from + r.Intn(min(size, 3))
	}
	return cell(near(z.X, z.W), near(z.Y, z.H))
}

func someKey(r *rand.Rand) string {
	return []string{"a", "b", "ab", "\xff", "\x00", "sixteen bytes ok"}[r.Intn(6)]
}

// drawnOp: most often one that is fresh, of a record that may be there.
func drawnOp(r *rand.Rand, m *plain) point.Op {
	o := point.Op{Kind: 1 + r.Intn(3), At: someCell(r, area(m.k, m.zone)), Key: someKey(r), Client: r.Intn(clients)}
	if len(m.recs) > 0 && r.Intn(2) == 0 {
		there := m.recs[r.Intn(len(m.recs))]
		o.At, o.Key = there.At, there.Key
	}
	if o.Kind == point.Put {
		o.Value = someText(r, r.Intn(33)>>r.Intn(6))
	}
	o.Seq = max(1, m.last(o.Client).seq+1+r.Intn(3))
	switch r.Intn(25) {
	case 0:
		wrong := wrongOps(o.At)
		return wrong[r.Intn(len(wrong))]
	case 1:
		beside := m.outside()
		o.At = beside[r.Intn(len(beside))]
	case 2:
		o.Seq = max(1, m.last(o.Client).seq-r.Intn(2))
	}
	return o
}

// drawnLists: some records and answers that no calls need have brought.
func drawnLists(r *rand.Rand, k int, zone string, most int) *plain {
	m := &plain{k: k, zone: zone}
	for range r.Intn(most + 1) {
		x := point.Rec{At: someCell(r, area(k, zone)), Key: someKey(r), Value: someText(r, r.Intn(33)>>r.Intn(6)), Ver: 1 + r.Intn(lastSeq)>>r.Intn(41)}
		if r.Intn(8) == 0 {
			x.Ver = lastSeq
		}
		if m.place(x.At, x.Key) < 0 {
			m.recs = append(m.recs, x)
		}
	}
	for range r.Intn(6) {
		n := note{r.Intn(clients), 1 + r.Intn(4), point.Ans{E: api.Errno(r.Intn(256))}}
		if r.Intn(2) == 0 {
			n.a = told(someText(r, r.Intn(33)), r.Intn(lastSeq+1)>>r.Intn(41))
		}
		m.told = append(m.told, n)
	}
	return m
}
