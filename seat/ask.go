package seat

import (
	"slices"

	"glebe/api"
	"glebe/entry"
)

// Propose: the entry is to be done next, if the holder may ask for it now.
func (s *Seat) Propose(e entry.Entry) api.Errno {
	if !s.Own() || !entry.Right(e) {
		return api.ErrArg
	}
	if !s.view.Ready || s.pending() {
		return api.ErrBusy
	}
	if fault := s.refuses(e); fault != api.OK {
		return fault
	}
	s.view.Pend = entry.Clone(e)
	return api.OK
}

// refuses: what is wrong with an entry of this Kind, in this zone, now.
func (s *Seat) refuses(e entry.Entry) api.Errno {
	switch e.Kind {
	case entry.Call:
		return s.refusesCall(e)
	case entry.Add:
		return s.refusesAdd(e.Node)
	case entry.Drop:
		if !slices.Contains(s.view.Chain, e.Node) {
			return api.ErrNone
		}
		return api.OK
	}
	return s.refusesTurn(e)
}

// refusesCall: a shelf tells by Apply what it would not do; to another one, since it is not done yet.
func (s *Seat) refusesCall(e entry.Entry) api.Errno {
	_, fault := s.knows.Clone().Apply(e.Op)
	return fault
}

func (s *Seat) refusesAdd(node int) api.Errno {
	switch {
	case node == s.view.Me || slices.Contains(s.view.Chain, node):
		return api.ErrThere
	case s.view.Free != nobody:
		return api.ErrBusy
	}
	return api.OK
}

// refusesTurn: of a Split or Move. Who is on the way out can't hold what comes of it.
func (s *Seat) refusesTurn(e entry.Entry) api.Errno {
	switch {
	case e.By != s.view.Me || !slices.Equal(e.Chain, s.view.Chain) || e.Epoch != s.view.Epoch+Step:
		return api.ErrArg
	case e.Kind == entry.Split && s.view.Path.Depth == 2*s.k:
		return api.ErrCell
	case e.Node == s.view.Free || s.view.Gone[e.Node]:
		return api.ErrBusy
	}
	return api.OK
}

// Release: the last heir is to be dismissed.
func (s *Seat) Release(node int) api.Errno {
	switch {
	case !s.Own():
		return api.ErrArg
	case !s.view.Ready || s.needs(node):
		return api.ErrBusy
	case !s.isLast(node):
		return api.ErrNone
	}
	if s.view.Free != node {
		s.view.Free, s.view.Since = node, s.view.Index
	}
	return api.OK
}

// needs: does the entry that is to be done next go by the node, or put another one behind it?
func (s *Seat) needs(node int) bool {
	return s.view.Pend.Kind == entry.Add || s.turns() && s.view.Pend.Node == node
}

func (s *Seat) isLast(node int) bool {
	last := len(s.view.Chain) - 1
	return last >= 0 && s.view.Chain[last] == node
}
