package seat_test

import (
	"bytes"
	"maps"
	"reflect"
	"slices"
	"strings"
	"testing"

	"glebe/api"
	"glebe/entry"
	"glebe/point"
	"glebe/seat"
	"glebe/session"
	"glebe/shelf"
	"glebe/wire"
)

const (
	nodes     = 8
	lastEpoch = 1099511627776
	lastSeq   = 1099511627776
	lastNum   = 9007199254740992
	step      = 64
)

// plain: a seat to the model: the chapter's words one by one, sets of nodes and of numbers as maps, what is to be done next as a list of none or one. No call changes one; what comes of it is a copy.
type plain struct {
	k, me                 int
	path, origin          api.Path
	epoch, holder, index  int
	chain                 []int
	pend                  []entry.Entry
	knows                 *shelf.Shelf
	ready, inherit, nudge bool
	synced, acked, gone   map[int]bool
	came                  map[int]int
	free, since           int
}

// blank: of no heirs, with nothing done.
func blank(k, me int, p api.Path, epoch, holder int) *plain {
	knows, _ := shelf.New(k, p)
	return &plain{
		k: k, me: me, path: p, epoch: epoch, holder: holder, knows: knows, free: -1,
		synced: map[int]bool{}, acked: map[int]bool{}, gone: map[int]bool{}, came: map[int]int{},
	}
}

func (m *plain) copyOf() *plain {
	c := *m
	c.chain, c.pend, c.knows = slices.Clone(m.chain), slices.Clone(m.pend), m.knows.Clone()
	c.synced, c.acked, c.gone = maps.Clone(m.synced), maps.Clone(m.acked), maps.Clone(m.gone)
	c.came = maps.Clone(m.came)
	return &c
}

func (m *plain) own() bool { return m.holder == m.me }

func (m *plain) upto() int { return m.index + len(m.pend) }

// kindIs: is an entry of one of these Kinds to be done next?
func (m *plain) kindIs(kinds ...int) bool {
	return len(m.pend) > 0 && slices.Contains(kinds, m.pend[0].Kind)
}

func (m *plain) dropOf(node int) bool { return m.kindIs(entry.Drop) && m.pend[0].Node == node }

func (m *plain) holds() bool {
	return m.own() && !(m.inherit && m.kindIs(entry.Split, entry.Move))
}

func (m *plain) out(node int, down seat.Down) bool {
	return down[node] || m.gone[node] || m.dropOf(node) && !m.inherit
}

// allOut: of the chain, but those in the set.
func (m *plain) allOut(set map[int]bool, down seat.Down) bool {
	return !slices.ContainsFunc(m.chain, func(node int) bool { return !set[node] && !m.out(node, down) })
}

func nodeIs(n int) bool { return 0 <= n && n <= nodes-1 }

func pathIs(k int, p api.Path) bool {
	return k >= 1 && k <= 16 && p.Depth >= 0 && p.Depth <= 2*k && p.Bits >= 0 && p.Bits>>p.Depth == 0
}

func emptyEntry(e entry.Entry) bool { return entry.Same(e, entry.Entry{}) }

// mayNote: by P1203's words. Of each Kind the fields that it has besides what all have.
func mayNote(n seat.Note) bool {
	has, some := map[int]string{seat.Sync: "holder chain pend state", seat.Append: "pend", seat.Have: "", seat.Dismiss: "", seat.Freed: "", seat.Grant: ""}[n.Kind]
	if !some || !nodeIs(n.From) || !nodeIs(n.To) || n.From == n.To || !pathIs(16, n.Path) {
		return false
	}
	if n.Epoch < 1 || n.Epoch > lastEpoch || n.Index < 0 || n.Index > lastEpoch {
		return false
	}
	for field, empty := range map[string]bool{"holder": n.Holder == 0, "chain": len(n.Chain) == 0, "pend": emptyEntry(n.Pend), "state": len(n.State) == 0} {
		if !strings.Contains(has, field) && !empty {
			return false
		}
	}
	switch n.Kind {
	case seat.Sync:
		right := entry.RightChain(n.Chain) && slices.Contains(n.Chain, n.To) && !slices.Contains(n.Chain, n.From)
		return right && n.Holder == n.From && (emptyEntry(n.Pend) || entry.Right(n.Pend))
	case seat.Append:
		return entry.Right(n.Pend)
	}
	return true
}

func splitsCell(k int, n seat.Note) bool { return n.Pend.Kind == entry.Split && n.Path.Depth == 2*k }

func readShelf(b []byte, k int, p api.Path) *shelf.Shelf {
	r := wire.Open(b)
	x := shelf.Take(r, k, p)
	if x == nil || r.Left() > 0 {
		return nil
	}
	return x
}

// some: an entry that is one, as a list.
func some(e entry.Entry) []entry.Entry {
	if emptyEntry(e) {
		return nil
	}
	return []entry.Entry{e}
}

func heirOf(k, me int, n seat.Note) (*plain, seat.Note, api.Errno) {
	if n.Kind != seat.Sync || !mayNote(n) || n.To != me || !pathIs(k, n.Path) || splitsCell(k, n) {
		return nil, seat.Note{}, api.ErrArg
	}
	knows := readShelf(n.State, k, n.Path)
	if knows == nil {
		return nil, seat.Note{}, api.ErrForm
	}
	m := blank(k, me, n.Path, n.Epoch, n.Holder)
	m.index, m.chain, m.pend, m.knows = n.Index, slices.Clone(n.Chain), some(n.Pend), knows
	return m, m.have(n), api.OK
}

func (m *plain) have(n seat.Note) seat.Note {
	return seat.Note{Kind: seat.Have, From: m.me, To: n.From, Path: m.path, Epoch: m.epoch, Index: m.upto()}
}

// done: what is to be done next, that is no Split or Move; the answer.
func (m *plain) done() (*plain, point.Ans) {
	c := m.copyOf()
	e := m.pend[0]
	c.index++
	c.pend, c.acked, c.inherit = nil, map[int]bool{}, false
	var a point.Ans
	switch e.Kind {
	case entry.Call:
		a, _ = c.knows.Apply(e.Op)
	case entry.Add:
		c.chain = append(slices.DeleteFunc(c.chain, func(n int) bool { return n == e.Node }), e.Node)
		c.synced[e.Node] = false
		c.came[e.Node] = c.index
	case entry.Drop:
		c.chain = slices.DeleteFunc(c.chain, func(n int) bool { return n == e.Node })
		c.gone[e.Node] = false
		if c.free == e.Node {
			c.free = -1
		}
	}
	return c, a
}

// made: of a Split or Move, a seat with this path, holder and chain.
func (m *plain) made(p api.Path, holder int, chain []int) *plain {
	e := m.pend[0]
	c := blank(m.k, m.me, p, e.Epoch, holder)
	c.index, c.chain = m.index+1, chain
	c.knows, _ = m.knows.Part(p)
	if holder == e.Node && holder != m.me {
		c.nudge, c.origin = true, m.path
	}
	return c
}

func (m *plain) turn() []*plain {
	if !m.kindIs(entry.Split, entry.Move) {
		return []*plain{m}
	}
	e := m.pend[0]
	upper := []int{e.By}
	for _, node := range e.Chain {
		if node != e.Node {
			upper = append(upper, node)
		}
	}
	if e.Kind == entry.Move {
		return []*plain{m.made(m.path, e.Node, upper)}
	}
	low := api.Path{Depth: m.path.Depth + 1, Bits: 2 * m.path.Bits}
	high := api.Path{Depth: m.path.Depth + 1, Bits: 2*m.path.Bits + 1}
	return []*plain{m.made(low, e.By, slices.Clone(e.Chain)), m.made(high, e.Node, upper)}
}

func (m *plain) propose(e entry.Entry) (*plain, api.Errno) {
	if !m.own() || !entry.Right(e) {
		return m, api.ErrArg
	}
	if !m.ready || len(m.pend) > 0 {
		return m, api.ErrBusy
	}
	inChain := slices.Contains(m.chain, e.Node)
	move := e.Kind == entry.Split || e.Kind == entry.Move
	look, _ := m.knows.Look(e.Op.Client, e.Op.Seq)
	for _, x := range []struct {
		wrong bool
		e     api.Errno
	}{
		{e.Kind == entry.Call && m.knows.Get(e.Op.At, "k").E != api.OK, api.ErrArg},
		{e.Kind == entry.Call && look != session.Fresh, api.ErrStale},
		{e.Kind == entry.Add && (inChain || e.Node == m.me), api.ErrThere},
		{e.Kind == entry.Add && m.free >= 0, api.ErrBusy},
		{e.Kind == entry.Drop && !inChain, api.ErrNone},
		{move && (e.By != m.me || e.Epoch != m.epoch+step || !slices.Equal(e.Chain, m.chain)), api.ErrArg},
		{e.Kind == entry.Split && m.path.Depth == 2*m.k, api.ErrCell},
		{move && (m.free == e.Node || m.gone[e.Node]), api.ErrBusy},
	} {
		if x.wrong {
			return m, x.e
		}
	}
	c := m.copyOf()
	c.pend = []entry.Entry{e}
	return c, api.OK
}

func (m *plain) release(node int) (*plain, api.Errno) {
	switch {
	case !m.own():
		return m, api.ErrArg
	case !m.ready, m.kindIs(entry.Add), m.kindIs(entry.Split, entry.Move) && m.pend[0].Node == node:
		return m, api.ErrBusy
	case len(m.chain) == 0 || m.chain[len(m.chain)-1] != node:
		return m, api.ErrNone
	case m.free == node:
		return m, api.OK
	}
	c := m.copyOf()
	c.free, c.since = node, m.index
	return c, api.OK
}

func (m *plain) hear(n seat.Note) ([]*plain, seat.Note, api.Errno) {
	alone := []*plain{m}
	if !mayNote(n) || n.To != m.me || n.Path != m.path || splitsCell(m.k, n) {
		return alone, seat.Note{}, api.ErrArg
	}
	switch n.Kind {
	case seat.Sync:
		return m.hearSync(n)
	case seat.Append:
		return m.hearAppend(n)
	case seat.Have:
		if !m.own() || n.Epoch != m.epoch || !slices.Contains(m.chain, n.From) || n.Index < m.came[n.From] {
			return alone, seat.Note{}, api.ErrStale
		}
		c := m.copyOf()
		c.synced[n.From] = true
		c.acked[n.From] = m.acked[n.From] || len(m.pend) > 0 && n.Index == m.upto()
		return []*plain{c}, seat.Note{}, api.OK
	case seat.Dismiss:
		if m.epoch > n.Epoch || m.own() || m.upto() > n.Index {
			return alone, seat.Note{}, api.ErrStale
		}
		return nil, seat.Note{Kind: seat.Freed, From: m.me, To: n.From, Path: m.path, Epoch: n.Epoch, Index: n.Index}, api.OK
	case seat.Freed:
		told := m.free == n.From || m.dropOf(n.From) && m.inherit
		if !m.own() || n.Epoch != m.epoch || !told || !slices.Contains(m.chain, n.From) || n.Index < m.since {
			return alone, seat.Note{}, api.ErrStale
		}
		c := m.copyOf()
		c.gone[n.From] = true
		return []*plain{c}, seat.Note{}, api.OK
	}
	if !m.kindIs(entry.Split, entry.Move) || m.pend[0].Epoch != n.Epoch || m.own() {
		return alone, seat.Note{}, api.ErrStale
	}
	return m.turn(), seat.Note{}, api.OK
}

func (m *plain) hearSync(n seat.Note) ([]*plain, seat.Note, api.Errno) {
	switch {
	case m.own() && n.Epoch == m.epoch:
		return []*plain{m}, seat.Note{}, api.ErrArg
	case n.Epoch < m.epoch:
		return []*plain{m}, seat.Note{}, api.ErrStale
	case n.Epoch > m.epoch:
		c, answer, e := heirOf(m.k, m.me, n)
		if e != api.OK {
			return []*plain{m}, seat.Note{}, e
		}
		return []*plain{c}, answer, api.OK
	}
	c := m.copyOf()
	c.nudge = false
	if n.Index > m.index {
		c.index, c.holder, c.chain, c.pend = n.Index, n.Holder, slices.Clone(n.Chain), some(n.Pend)
		if c.knows = readShelf(n.State, m.k, m.path); c.knows == nil {
			return []*plain{m}, seat.Note{}, api.ErrForm
		}
	}
	if n.Index == m.index && len(m.pend) == 0 {
		c.pend = some(n.Pend)
	}
	return []*plain{c}, c.have(n), api.OK
}

func (m *plain) hearAppend(n seat.Note) ([]*plain, seat.Note, api.Errno) {
	if m.own() || n.Epoch != m.epoch || n.Index > m.upto()+1 {
		return []*plain{m}, seat.Note{}, api.ErrStale
	}
	if n.Index <= m.upto() {
		return []*plain{m}, m.have(n), api.OK
	}
	if m.kindIs(entry.Split, entry.Move) {
		return []*plain{m}, seat.Note{}, api.ErrArg
	}
	c := m.copyOf()
	if len(m.pend) > 0 {
		c, _ = m.done()
	}
	c.pend = []entry.Entry{n.Pend}
	return []*plain{c}, c.have(n), api.OK
}

// ahead: the place in the chain of who may take over; -1, if it may not.
func (m *plain) ahead(down seat.Down) int {
	if m.own() || !down[m.holder] {
		return -1
	}
	for i, node := range m.chain {
		if node == m.me {
			return i
		}
		if !down[node] {
			break
		}
	}
	return -1
}

func (m *plain) takenOver(ahead int) *plain {
	c := blank(m.k, m.me, m.path, m.epoch+1+ahead, m.me)
	c.index, c.pend, c.knows, c.origin = m.index, m.pend, m.knows, m.origin
	c.chain = slices.Clone(m.chain[ahead+1:])
	c.inherit = len(m.pend) > 0
	return c
}

func (m *plain) settle(down seat.Down) ([]*plain, []seat.Done) {
	c := m.copyOf()
	if ahead := m.ahead(down); ahead >= 0 {
		c = m.takenOver(ahead)
	}
	if !c.own() {
		return []*plain{c}, nil
	}
	c.ready = c.ready || c.allOut(c.synced, down)
	if !c.ready || len(c.pend) == 0 || !c.allOut(c.acked, down) {
		return []*plain{c}, nil
	}
	e := c.pend[0]
	if c.kindIs(entry.Split, entry.Move) {
		return c.turn(), []seat.Done{{Entry: e}}
	}
	c, a := c.done()
	return []*plain{c}, []seat.Done{{Entry: e, Ans: a}}
}

func (m *plain) sends(down seat.Down) []seat.Note {
	var l []seat.Note
	send := func(to int, n seat.Note) {
		n.From, n.To, n.Epoch = m.me, to, m.epoch
		if n.Kind != seat.Grant {
			n.Path = m.path
		}
		l = append(l, n)
	}
	if !m.own() {
		if m.nudge && !down[m.holder] {
			send(m.holder, seat.Note{Kind: seat.Grant, Path: m.origin})
		}
		return l
	}
	for _, node := range m.chain {
		if m.out(node, down) {
			continue
		}
		if m.dropOf(node) {
			send(node, seat.Note{Kind: seat.Dismiss, Index: m.index})
		} else if !m.synced[node] {
			send(node, seat.Note{Kind: seat.Sync, Index: m.index, Holder: m.me, Chain: m.chain, Pend: m.entry(), State: m.knows.Put()})
		} else if len(m.pend) > 0 && !m.acked[node] {
			send(node, seat.Note{Kind: seat.Append, Index: m.index + 1, Pend: m.entry()})
		}
	}
	if m.free >= 0 && !m.out(m.free, down) {
		send(m.free, seat.Note{Kind: seat.Dismiss, Index: m.index})
	}
	return l
}

func (m *plain) entry() entry.Entry {
	if len(m.pend) == 0 {
		return entry.Entry{}
	}
	return m.pend[0]
}

func merged(a, b *plain) (*plain, api.Errno) {
	if !a.own() || !b.own() || a.me != b.me || a.k != b.k {
		return nil, api.ErrArg
	}
	if a.path.Depth == 0 || a.path.Depth != b.path.Depth || a.path.Bits/2 != b.path.Bits/2 || a.path == b.path {
		return nil, api.ErrMeet
	}
	if !a.ready || !b.ready || len(a.pend)+len(b.pend)+len(a.chain)+len(b.chain) > 0 {
		return nil, api.ErrBusy
	}
	c := blank(a.k, a.me, api.Path{Depth: a.path.Depth - 1, Bits: a.path.Bits / 2}, max(a.epoch, b.epoch)+step, a.me)
	c.index = max(a.index, b.index) + 1
	c.knows, _ = a.knows.Join(b.knows)
	c.ready = true
	return c, api.OK
}

func setOf(m map[int]bool) seat.Down {
	var d seat.Down
	for node, in := range m {
		d[node] = in
	}
	return d
}

func (m *plain) view() seat.View {
	v := seat.View{
		Path: m.path, Origin: m.origin, Epoch: m.epoch, Holder: m.holder, Me: m.me, Index: m.index, Free: m.free, Since: m.since,
		Chain: m.chain, Pend: m.entry(), Ready: m.ready, Inherit: m.inherit, Nudge: m.nudge,
		Synced: setOf(m.synced), Acked: setOf(m.acked), Gone: setOf(m.gone),
	}
	for node, index := range m.came {
		v.Came[node] = index
	}
	return v
}

// alike: field by field, where lists of nothing are no lists.
func alike(a, b any) bool { return reflect.DeepEqual(a, b) }

func entryOf(e entry.Entry) entry.Entry {
	e.Chain = append([]int(nil), e.Chain...)
	return e
}

func sameView(a, b seat.View) bool {
	for _, v := range []*seat.View{&a, &b} {
		v.Chain, v.Pend = append([]int(nil), v.Chain...), entryOf(v.Pend)
	}
	return alike(a, b)
}

func sameNote(a, b seat.Note) bool {
	for _, n := range []*seat.Note{&a, &b} {
		n.Chain, n.Pend, n.State = append([]int(nil), n.Chain...), entryOf(n.Pend), append([]byte(nil), n.State...)
	}
	return alike(a, b)
}

func sameDone(a, b seat.Done) bool { return entry.Same(a.Entry, b.Entry) && a.Ans == b.Ans }

// tells: the seat is to be seen as the model, and stays so, whatever becomes of what was told.
func tells(t *testing.T, s *seat.Seat, m *plain) {
	t.Helper()
	for range 2 {
		v, want := s.View(), m.view()
		if !sameView(v, want) {
			t.Fatalf("View %+v, want %+v", v, want)
		}
		fill(v.Chain)
		fill(v.Pend.Chain)
		x := s.Shelf()
		if !x.Same(m.knows) || !bytes.Equal(x.Put(), m.knows.Put()) {
			t.Fatalf("Shelf %q, want %q", x.Put(), m.knows.Put())
		}
		at, _ := corner(m.k, m.path)
		x.Apply(point.Op{Kind: point.Put, At: at, Key: "told", Client: nodes - 1, Seq: lastSeq})
	}
	if s.Own() != m.own() || s.Holds() != m.holds() {
		t.Fatalf("of %+v: Own %v, Holds %v", m.view(), s.Own(), s.Holds())
	}
}
