package seat_test

import (
	"math/rand"
	"slices"
	"testing"

	"glebe/api"
	"glebe/entry"
	"glebe/point"
	"glebe/seat"
	"glebe/shelf"
)

const runK = 3

// runZone: X from 0 to 3, Y from 4 to 7.
func runZone() api.Path { return pathOf("01") }

// machine: one of a run's nodes: its seat of the zone, if it has one, with which Epoch and Index it was dismissed last, and of whom it was told that they have stopped.
type machine struct {
	me          int
	s           *seat.Seat
	runs        bool
	down        seat.Down
	epoch, left int
}

// old: was the node dismissed by what came behind such a note? Who hears old notes again must not be let in by them (22).
func (m *machine) old(n seat.Note) bool {
	return m.epoch > n.Epoch || m.epoch == n.Epoch && m.left >= n.Index
}

// run: several nodes, what flies between them, and the row of what was told as done, with the answer to each, and the shelf ahead of it and behind it.
type run struct {
	t       *testing.T
	r       *rand.Rand
	nodes   []*machine
	flying  []seat.Note
	late    []seat.Note
	row     []entry.Entry
	answers []point.Ans
	shelves []*shelf.Shelf
	shut    map[[2]int]bool
	seq     int
	seen    map[string]int
}

func newRun(t *testing.T, seed int64, n int, seen map[string]int) *run {
	t.Helper()
	x := &run{t: t, r: rand.New(rand.NewSource(seed)), shut: map[[2]int]bool{}, seen: seen}
	for i := range n {
		x.nodes = append(x.nodes, &machine{me: i, runs: true})
	}
	s, e := seat.Found(runK, 0, runZone(), 1)
	empty, f := shelf.New(runK, runZone())
	if e != api.OK || f != api.OK {
		t.Fatalf("Found: %d, New: %d", e, f)
	}
	x.nodes[0].s = s
	x.shelves = append(x.shelves, empty)
	return x
}

// told: this was done, under that Index; if something was before, it was the same, with the same answer.
func (x *run) told(index int, d seat.Done) {
	x.t.Helper()
	if index <= len(x.row) {
		if !entry.Same(x.row[index-1], d.Entry) || x.answers[index-1] != d.Ans {
			x.t.Fatalf("under Index %d: %+v, and before %+v, %+v", index, d, x.row[index-1], x.answers[index-1])
		}
		x.seen["told again"]++
		return
	}
	if index != len(x.row)+1 {
		x.t.Fatalf("Index %d behind %d", index, len(x.row))
	}
	next := x.shelves[index-1].Clone()
	var a point.Ans
	if d.Entry.Kind == entry.Call {
		a, _ = next.Apply(d.Entry.Op)
	}
	if a != d.Ans {
		x.t.Fatalf("under Index %d: %+v, want %+v", index, d, a)
	}
	x.row, x.answers, x.shelves = append(x.row, d.Entry), append(x.answers, a), append(x.shelves, next)
	x.seen["told"]++
}

// taken: who takes over has all that was told as done; the last of it perhaps still to be done.
func (x *run) taken(v seat.View) {
	x.t.Helper()
	x.seen["taken over"]++
	if v.Epoch > 1 {
		x.seen["taken over from who had"]++
	}
	if v.Pend.Kind == entry.Drop {
		x.seen["taken over with a Drop"]++
	}
	missing := len(x.row) - v.Index
	if missing > 1 || missing == 1 && !entry.Same(v.Pend, x.row[v.Index]) {
		x.t.Fatalf("%d took over with Index %d and %+v, where %+v was told", v.Me, v.Index, v.Pend, x.row)
	}
	if missing == 1 {
		x.seen["taken over with what was told still to be done"]++
	}
}

func (x *run) settle(m *machine) {
	x.t.Helper()
	was, own := m.s.View(), m.s.Own()
	l, done := m.s.Settle(m.down)
	if len(l) != 1 || len(done) > 1 {
		x.t.Fatalf("%d seats, %d done", len(l), len(done))
	}
	m.s = l[0]
	if m.s.Own() && !own {
		x.taken(was)
	}
	for _, d := range done {
		x.told(m.s.View().Index, d)
		if d.Entry.Kind == entry.Drop {
			x.seen["dropped"]++
		}
	}
}

// heard: who does the entry ahead of a note's does what was told.
func (x *run) heard(m *machine, n seat.Note) {
	x.t.Helper()
	if m.s == nil {
		x.lets(m, n)
		return
	}
	was := m.s.View()
	l, answer, e := m.s.Hear(n)
	if e == api.OK && answer.Kind != 0 {
		x.flying = append(x.flying, answer)
	}
	if len(l) == 0 {
		m.s, m.epoch, m.left = nil, n.Epoch, n.Index
		x.seen["dismissed"]++
		return
	}
	m.s = l[0]
	now := m.s.View()
	if n.Kind == seat.Append && n.Epoch < was.Epoch && n.Index > was.Index {
		x.seen["an entry of a holder ahead"]++
	}
	if n.Kind == seat.Freed && e == api.OK {
		x.seen["gone"]++
	}
	if was.Holder == was.Me && now.Holder != now.Me {
		x.t.Fatalf("%d was own, and another one is: %+v", m.me, n)
	}
	if n.Kind == seat.Append && now.Index > was.Index {
		x.seen["done by an heir"]++
		if now.Index != was.Index+1 || len(x.row) < now.Index || !entry.Same(x.row[was.Index], was.Pend) {
			x.t.Fatalf("%d does %+v under Index %d: %+v", m.me, was.Pend, now.Index, x.row)
		}
	}
}

// lets: who has no seat is let in by a Sync, and says so, if it is dismissed again.
func (x *run) lets(m *machine, n seat.Note) {
	x.t.Helper()
	switch {
	case n.Kind == seat.Sync && m.old(n):
		x.seen["old"]++
	case n.Kind == seat.Sync:
		s, answer, e := seat.Heir(runK, m.me, n)
		if e != api.OK {
			x.t.Fatalf("Heir of %+v: %d", n, e)
		}
		m.s = s
		x.flying = append(x.flying, answer)
		x.seen["let in"]++
		if m.epoch > 0 {
			x.seen["let in again"]++
		}
	case n.Kind == seat.Dismiss:
		if !m.old(n) {
			m.epoch, m.left = n.Epoch, n.Index
		}
		x.flying = append(x.flying, seat.Note{Kind: seat.Freed, From: m.me, To: n.From, Path: n.Path, Epoch: n.Epoch, Index: n.Index})
	}
}

// call: of a client that may ask for what it has asked for already.
func (x *run) call() entry.Entry {
	if x.seq == 0 || x.r.Intn(5) > 0 {
		x.seq++
	}
	o := point.Op{Kind: 1 + x.r.Intn(3), At: cell(x.r.Intn(4), 4+x.r.Intn(4)), Key: string(rune('a' + x.r.Intn(3))), Client: x.r.Intn(nodes), Seq: x.seq}
	if o.Kind == point.Put {
		o.Value = string(rune('A' + x.r.Intn(26)))
	}
	return callOf(o)
}

// ask: the holder is asked for something; for a Drop just of one that it knows to have stopped, or to be dismissed, as holders are (16, 23).
func (x *run) ask(m *machine) {
	chain := m.s.View().Chain
	switch x.r.Intn(8) {
	case 0, 1, 2:
		for range 3 {
			m.s.Propose(add(x.r.Intn(len(x.nodes))))
		}
	case 3, 4:
		gone := m.s.View().Gone
		i := slices.IndexFunc(chain, func(node int) bool { return m.down[node] || gone[node] })
		if i >= 0 {
			m.s.Propose(drop(chain[i]))
		}
	case 5:
		if len(chain) > 0 && x.r.Intn(3) == 0 {
			m.s.Release(chain[len(chain)-1])
		}
	default:
		m.s.Propose(x.call())
	}
}

// fly: one of what flies is lost, comes, or comes and flies on; most often one that was sent of late. Where a way is shut, what flies on it waits.
func (x *run) fly() {
	x.t.Helper()
	if len(x.flying) == 0 {
		return
	}
	i := x.r.Intn(len(x.flying))
	if x.r.Intn(4) > 0 {
		i = len(x.flying) - 1 - x.r.Intn(min(8, len(x.flying)))
	}
	n := x.flying[i]
	if len(x.flying) < 60 && x.shut[[2]int{n.From, n.To}] {
		return
	}
	if x.r.Intn(2) == 0 || len(x.flying) > 60 {
		x.flying = slices.Delete(x.flying, i, i+1)
		x.late = append(x.late, n)
	}
	if x.r.Intn(10) > 0 {
		x.comes(n)
	}
}

// again: a note that came, or was lost, long ago comes now.
func (x *run) again() {
	x.t.Helper()
	if len(x.late) > 60 {
		i := x.r.Intn(len(x.late))
		x.late = slices.Delete(x.late, i, i+1)
	}
	if len(x.late) > 0 {
		x.comes(x.late[x.r.Intn(len(x.late))])
	}
}

func (x *run) comes(n seat.Note) {
	x.t.Helper()
	if m := x.nodes[n.To]; m.runs {
		x.heard(m, n)
		x.holds(m)
	}
}

// stop: most often of a holder, so that others take over, but not of who has nobody behind it; at times while it sends, so that some hear of what others never do.
func (x *run) stop(m *machine) {
	v := m.s.View()
	if v.Holder == v.Me && (len(v.Chain) == 0 || !v.Ready && x.r.Intn(4) > 0) || v.Holder != v.Me && x.r.Intn(3) > 0 {
		return
	}
	if x.r.Intn(2) == 0 {
		m.s.Propose(x.call())
		for _, n := range m.s.Out(m.down) {
			for range x.r.Intn(3) {
				x.flying = append(x.flying, n)
			}
		}
	}
	m.runs, m.s = false, nil
	x.seen["stopped"]++
}

// some: a node with a seat; every other time the holder, if there is one.
func (x *run) some() *machine {
	var l []*machine
	for _, m := range x.nodes {
		if m.s.Own() && x.r.Intn(2) == 0 {
			return m
		}
		if m.s != nil {
			l = append(l, m)
		}
	}
	return l[x.r.Intn(len(l))]
}

// step: one act of one node, or of what is between them.
func (x *run) step() {
	x.t.Helper()
	m, about := x.some(), x.nodes[x.r.Intn(len(x.nodes))]
	switch act := x.r.Intn(200); {
	case act < 100:
		x.fly()
		return
	case act < 120:
		x.again()
		return
	case act < 122:
		x.shut[[2]int{m.me, about.me}] = x.r.Intn(3) == 0
	case act < 132:
		m.down[about.me] = m.down[about.me] || !about.runs
	case act < 133:
		x.stop(m)
	case act < 155:
		x.ask(m)
	case act < 187:
		x.settle(m)
	default:
		x.flying = append(x.flying, m.s.Out(m.down)...)
	}
	x.holds(m)
}

// holds: what the promises say of one node, and of all that run.
func (x *run) holds(m *machine) {
	x.t.Helper()
	owners := 0
	for _, m := range x.nodes {
		if m.s.Own() {
			owners++
		}
	}
	if owners > 1 {
		x.t.Fatalf("%d running nodes are own", owners)
	}
	if m.s == nil {
		return
	}
	v := m.s.View()
	if v.Index > len(x.row) || !m.s.Shelf().Same(x.shelves[v.Index]) {
		x.t.Fatalf("%d, Index %d: its shelf has not what was told: %+v", m.me, v.Index, x.row)
	}
	if v.Ready && v.Index != len(x.row) {
		x.t.Fatalf("%d is Ready with Index %d, but %+v was told", m.me, v.Index, x.row)
	}
	if v.Ready && v.Epoch > 1 {
		x.seen["ready again"]++
	}
}

func (x *run) over() bool {
	return !slices.ContainsFunc(x.nodes, func(m *machine) bool { return m.s != nil })
}

// P1208 to P1210: runs of several nodes, in which notes are lost, doubled and come in any order, and nodes stop.
func TestRuns(t *testing.T) {
	seen := map[string]int{}
	for seed := range 2500 {
		x := newRun(t, int64(seed), 2+seed%6, seen)
		for range 1500 {
			if x.step(); x.over() {
				break
			}
		}
	}
	for what, least := range map[string]int{
		"told": 15000, "told again": 500, "done by an heir": 6000, "an entry of a holder ahead": 400,
		"stopped": 3000, "taken over": 1500, "taken over from who had": 500, "taken over with a Drop": 100, "taken over with what was told still to be done": 500, "ready again": 50000,
		"dismissed": 500, "gone": 2000, "dropped": 2000, "let in": 3000, "let in again": 300, "old": 1000,
	} {
		if seen[what] < least {
			t.Errorf("%q was seen %d times, want %d", what, seen[what], least)
		}
	}
}
