package seat

import (
	"slices"

	"glebe/api"
	"glebe/entry"
	"glebe/path"
	"glebe/shelf"
	"glebe/wire"
)

func isNode(n int) bool { return n >= 0 && n < api.MaxNodes }

func isEpoch(n int) bool { return n >= 1 && n <= entry.MaxEpoch }

func isIndex(n int) bool { return n >= 0 && n <= entry.MaxEpoch }

// RightNote: may the note be?
func RightNote(n Note) bool {
	if !isNode(n.From) || !isNode(n.To) || n.From == n.To || !path.Right(api.MaxK, n.Path) || !isEpoch(n.Epoch) || !isIndex(n.Index) {
		return false
	}
	switch n.Kind {
	case Sync:
		return n.Holder == n.From && rightHeirs(n) && (noEntry(n) || entry.Right(n.Pend))
	case Append:
		return entry.Right(n.Pend) && noState(n)
	case Have, Dismiss, Freed, Grant:
		return noEntry(n) && noState(n)
	}
	return false
}

// rightHeirs: who is told stands in the chain, who tells holds the zone.
func rightHeirs(n Note) bool {
	return entry.RightChain(n.Chain) && slices.Contains(n.Chain, n.To) && !slices.Contains(n.Chain, n.From)
}

func noEntry(n Note) bool { return entry.Same(n.Pend, entry.Entry{}) }

// noState: nothing of what just a Sync has.
func noState(n Note) bool {
	return n.Holder == 0 && len(n.Chain) == 0 && len(n.State) == 0
}

// fits: is the note of a zone of k? One cell can't be split.
func fits(k int, n Note) bool {
	cell := n.Path.Depth == 2*k
	return path.Right(k, n.Path) && !(cell && n.Pend.Kind == entry.Split)
}

// shelfOf: the shelf whose bytes the State is, all of it; nil of others.
func shelfOf(k int, n Note) *shelf.Shelf {
	from := wire.Open(n.State)
	told := shelf.Take(from, k, n.Path)
	if from.Done() != api.OK {
		return nil
	}
	return told
}

// note: one of its own, with nothing but what all have.
func (s *Seat) note(kind, to, index int) Note {
	return Note{Kind: kind, From: s.view.Me, To: to, Path: s.view.Path, Epoch: s.view.Epoch, Index: index}
}

// have: how much it knows.
func (s *Seat) have(to int) Note { return s.note(Have, to, s.upto()) }
