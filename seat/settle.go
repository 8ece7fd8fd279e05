package seat

import (
	"slices"

	"glebe/api"
	"glebe/entry"
	"glebe/path"
	"glebe/point"
)

// finish: what is to be done next is done, if there is something, and it is no Split or Move; the answer of a Call.
func (s *Seat) finish() point.Ans {
	e := s.view.Pend
	if e.Kind == 0 {
		return point.Ans{}
	}
	s.view.Index++
	s.view.Pend, s.view.Acked, s.view.Inherit = entry.Entry{}, Down{}, false
	switch e.Kind {
	case entry.Call:
		a, _ := s.knows.Apply(e.Op)
		return a
	case entry.Add:
		s.add(e.Node)
	case entry.Drop:
		s.drop(e.Node)
	}
	return point.Ans{}
}

// add: the node comes to the end of the chain, wherever it stood, so that no chain ever has a node twice.
func (s *Seat) add(node int) {
	s.view.Chain = append(entry.Without(s.view.Chain, node), node)
	s.view.Synced[node] = false
	s.view.Came[node] = s.view.Index
}

func (s *Seat) drop(node int) {
	s.view.Chain = entry.Without(s.view.Chain, node)
	s.view.Gone[node] = false
	if s.view.Free == node {
		s.view.Free = nobody
	}
}

// Turn: the seats that a Split or Move makes of it; else it alone.
func (s *Seat) Turn() []*Seat {
	if s.none() {
		return nil
	}
	e := s.view.Pend
	first, second := entry.Heirs(e)
	switch e.Kind {
	case entry.Split:
		return stand(s.next(s.child(0), e.By, first), s.next(s.child(1), e.Node, second))
	case entry.Move:
		return stand(s.next(s.view.Path, e.Node, second))
	}
	return stand(s)
}

// child: a half of the zone, which is no single cell, where a Split is to be done.
func (s *Seat) child(bit int) api.Path {
	p, _ := path.Child(s.view.Path, bit)
	return p
}

// next: a seat that a Split or Move makes, of the zone or a half of it. Node may not have heard yet that it was done; so who has, tells it.
func (s *Seat) next(p api.Path, holder int, chain []int) *Seat {
	e := s.view.Pend
	v := View{Path: p, Epoch: e.Epoch, Holder: holder, Me: s.view.Me, Index: s.view.Index + 1, Chain: chain}
	if holder == e.Node && holder != s.view.Me {
		v.Nudge, v.Origin = true, s.view.Path
	}
	part, _ := s.knows.Part(p)
	return begun(s.k, v, part)
}

// Settle: what can be done now, of what waits; the seats that stand in its place, and what was done.
func (s *Seat) Settle(down Down) ([]*Seat, []Done) {
	if s.none() {
		return nil, nil
	}
	if s.mayTakeOver(down) {
		s.takeOver()
	}
	if !s.Own() {
		return stand(s), nil
	}
	if s.all(s.view.Synced, down) {
		s.view.Ready = true
	}
	if !s.view.Ready || !s.pending() || !s.all(s.view.Acked, down) {
		return stand(s), nil
	}
	e := entry.Clone(s.view.Pend)
	if s.turns() {
		return s.Turn(), []Done{{Entry: e}}
	}
	a := s.finish()
	return stand(s), []Done{{Entry: e, Ans: a}}
}

// mayTakeOver: is it an heir's, and has all that was ahead stopped?
func (s *Seat) mayTakeOver(down Down) bool {
	place := slices.Index(s.view.Chain, s.view.Me)
	if s.Own() || place < 0 || !down[s.view.Holder] {
		return false
	}
	for _, node := range s.view.Chain[:place] {
		if !down[node] {
			return false
		}
	}
	return true
}

// takeOver: the Epoch goes up by the place in the chain, so that those who may take over from one holder have unlike ones.
func (s *Seat) takeOver() {
	v := s.view
	place := slices.Index(v.Chain, v.Me)
	s.view = View{
		Path:    v.Path,
		Origin:  v.Origin,
		Epoch:   v.Epoch + 1 + place,
		Holder:  v.Me,
		Me:      v.Me,
		Index:   v.Index,
		Free:    nobody,
		Chain:   v.Chain[place+1:],
		Pend:    v.Pend,
		Inherit: s.pending(),
	}
}

// all: is each heir one of these, or out?
func (s *Seat) all(these, down Down) bool {
	for _, node := range s.view.Chain {
		if !these[node] && !s.isOut(node, down) {
			return false
		}
	}
	return true
}

// isOut: need nobody wait for the node? A Drop that was found when taking over doesn't tell so: the holder ahead may have let the node in again.
func (s *Seat) isOut(node int, down Down) bool {
	return down[node] || s.view.Gone[node] || s.drops(node) && !s.view.Inherit
}

// Out: what it sends.
func (s *Seat) Out(down Down) []Note {
	switch {
	case s.Own():
		return s.toHeirs(down)
	case !s.none() && s.view.Nudge && !down[s.view.Holder]:
		return []Note{s.grant()}
	}
	return nil
}

func (s *Seat) toHeirs(down Down) []Note {
	var l []Note
	for _, node := range s.view.Chain {
		switch {
		case s.isOut(node, down):
		case s.drops(node):
			l = append(l, s.note(Dismiss, node, s.view.Index))
		case !s.view.Synced[node]:
			l = append(l, s.syncFor(node))
		case s.pending() && !s.view.Acked[node]:
			l = append(l, s.appendFor(node))
		}
	}
	if s.view.Free != nobody && !s.isOut(s.view.Free, down) {
		l = append(l, s.note(Dismiss, s.view.Free, s.view.Index))
	}
	return l
}

func (s *Seat) syncFor(to int) Note {
	n := s.note(Sync, to, s.view.Index)
	n.Holder = s.view.Me
	n.Chain, n.Pend = slices.Clone(s.view.Chain), entry.Clone(s.view.Pend)
	n.State = s.knows.Put()
	return n
}

func (s *Seat) appendFor(to int) Note {
	n := s.note(Append, to, s.upto())
	n.Pend = entry.Clone(s.view.Pend)
	return n
}

// grant: it names the zone and the Epoch by which the Holder knows the Split or Move.
func (s *Seat) grant() Note {
	n := s.note(Grant, s.view.Holder, 0)
	n.Path = s.view.Origin
	return n
}
