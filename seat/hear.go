package seat

import (
	"slices"

	"glebe/api"
	"glebe/entry"
)

// Hear: the seats that stand in its place, what it answers, and why not.
func (s *Seat) Hear(n Note) ([]*Seat, Note, api.Errno) {
	if s.none() {
		return nil, Note{}, api.ErrArg
	}
	if !RightNote(n) || n.To != s.view.Me || n.Path != s.view.Path || !fits(s.k, n) {
		return s.refuse(api.ErrArg)
	}
	return s.does(n.Kind)(n)
}

// does: what a kind of note does with it.
func (s *Seat) does(kind int) func(n Note) ([]*Seat, Note, api.Errno) {
	switch kind {
	case Sync:
		return s.hearSync
	case Append:
		return s.hearAppend
	case Have:
		return s.hearHave
	case Dismiss:
		return s.hearDismiss
	case Freed:
		return s.hearFreed
	}
	return s.hearGrant
}

func (s *Seat) refuse(e api.Errno) ([]*Seat, Note, api.Errno) { return stand(s), Note{}, e }

func (s *Seat) answer(n Note) ([]*Seat, Note, api.Errno) { return stand(s), n, api.OK }

// hearSync: what the holder told is taken, where it is more than what is known.
func (s *Seat) hearSync(n Note) ([]*Seat, Note, api.Errno) {
	switch {
	case s.Own() && n.Epoch == s.view.Epoch:
		return s.refuse(api.ErrArg)
	case n.Epoch < s.view.Epoch:
		return s.refuse(api.ErrStale)
	}
	if n.Epoch > s.view.Epoch || n.Index > s.view.Index {
		if e := s.take(n); e != api.OK {
			return s.refuse(e)
		}
	}
	if n.Index == s.view.Index && !s.pending() {
		s.view.Pend = entry.Clone(n.Pend)
	}
	s.view.Nudge = false
	return s.answer(s.have(n.From))
}

// take: of a greater Epoch it is another seat; of its own one just what entries change is another.
func (s *Seat) take(n Note) api.Errno {
	told, _, e := Heir(s.k, s.view.Me, n)
	if e != api.OK {
		return e
	}
	if n.Epoch > s.view.Epoch {
		*s = *told
		return api.OK
	}
	s.knows = told.knows
	s.view.Index, s.view.Holder = told.view.Index, told.view.Holder
	s.view.Chain, s.view.Pend = told.view.Chain, told.view.Pend
	return api.OK
}

// hearAppend: where the holder tells of the next entry, the one ahead of it was done.
func (s *Seat) hearAppend(n Note) ([]*Seat, Note, api.Errno) {
	if n.Epoch != s.view.Epoch || s.Own() {
		return s.refuse(api.ErrStale)
	}
	if n.Index == s.upto()+1 {
		if s.turns() {
			return s.refuse(api.ErrArg)
		}
		s.finish()
		s.view.Pend = entry.Clone(n.Pend)
	}
	if n.Index > s.upto() {
		return s.refuse(api.ErrStale)
	}
	return s.answer(s.have(n.From))
}

func (s *Seat) hearHave(n Note) ([]*Seat, Note, api.Errno) {
	if !s.Own() || n.Epoch != s.view.Epoch || !slices.Contains(s.view.Chain, n.From) || n.Index < s.view.Came[n.From] {
		return s.refuse(api.ErrStale)
	}
	s.view.Synced[n.From] = true
	if s.pending() && n.Index == s.upto() {
		s.view.Acked[n.From] = true
	}
	return s.answer(Note{})
}

// hearDismiss: who knows more than the holder did then is dismissed by a later note alone.
func (s *Seat) hearDismiss(n Note) ([]*Seat, Note, api.Errno) {
	if s.view.Epoch > n.Epoch || s.Own() || s.upto() > n.Index {
		return s.refuse(api.ErrStale)
	}
	freed := s.note(Freed, n.From, n.Index)
	freed.Epoch = n.Epoch
	return stand(), freed, api.OK
}

func (s *Seat) hearFreed(n Note) ([]*Seat, Note, api.Errno) {
	if !s.Own() || n.Epoch != s.view.Epoch || !s.dismisses(n.From) || n.Index < s.view.Since {
		return s.refuse(api.ErrStale)
	}
	s.view.Gone[n.From] = true
	return s.answer(Note{})
}

// dismisses: is the node an heir that was sent a Dismiss?
func (s *Seat) dismisses(node int) bool {
	told := node == s.view.Free || s.view.Inherit && s.drops(node)
	return told && slices.Contains(s.view.Chain, node)
}

// hearGrant: who sends it knows that the Split or Move was done.
func (s *Seat) hearGrant(n Note) ([]*Seat, Note, api.Errno) {
	if !s.turns() || s.view.Pend.Epoch != n.Epoch || s.Own() {
		return s.refuse(api.ErrStale)
	}
	return s.Turn(), Note{}, api.OK
}
