package entry

import (
	"slices"

	"glebe/api"
	"glebe/point"
	"glebe/wire"
)

// nums: numbers as bytes, one behind the other. Just what may be is written, so wire refuses none of it.
func nums(l ...int) []byte {
	var b []byte
	for _, n := range l {
		num, _ := wire.Num(n)
		b = append(b, num...)
	}
	return b
}

// taken: what was read, if nothing was wrong with the bytes, and it may be.
func taken[T any](r *wire.Reader, read T, right bool) T {
	if !right {
		r.Fail(api.ErrForm)
	}
	if r.Err() != api.OK {
		var none T
		return none
	}
	return read
}

// PutChain: a chain as bytes.
func PutChain(l []int) ([]byte, api.Errno) {
	if !RightChain(l) {
		return nil, api.ErrArg
	}
	return slices.Concat(nums(len(l)), nums(l...)), api.OK
}

// TakeChain: the chain that stands next.
func TakeChain(r *wire.Reader) []int {
	l := make([]int, r.Upto(api.MaxNodes))
	for i := range l {
		l[i] = r.Num()
	}
	return taken(r, l, RightChain(l))
}

// Put: an entry as bytes.
func Put(e Entry) ([]byte, api.Errno) {
	if !Right(e) {
		return nil, api.ErrArg
	}
	return slices.Concat(nums(e.Kind), content(e)), api.OK
}

// content: what stands behind the Kind; of an entry that may be, so nothing of it is refused.
func content(e Entry) []byte {
	switch e.Kind {
	case Call:
		call, _ := point.PutOp(e.Op)
		return call
	case Add, Drop:
		return nums(e.Node)
	}
	chain, _ := PutChain(e.Chain)
	return slices.Concat(nums(e.Node, e.Epoch, e.By), chain)
}

// Take: the entry that stands next.
func Take(r *wire.Reader) Entry {
	e := read(r)
	return taken(r, e, Right(e))
}

// read: may it be or not. Behind a Kind that is none nothing is read.
func read(r *wire.Reader) Entry {
	e := Entry{Kind: r.Num()}
	switch e.Kind {
	case Call:
		e.Op = point.TakeOp(r)
	case Add, Drop:
		e.Node = r.Num()
	case Split, Move:
		e.Node = r.Num()
		e.Epoch = r.Num()
		e.By = r.Num()
		e.Chain = TakeChain(r)
	}
	return e
}
