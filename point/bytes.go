package point

import (
	"bytes"

	"glebe/api"
	"glebe/wire"
)

// writing: bytes, put together so far. Just what may be is written, so wire refuses none of it.
type writing struct {
	bytes.Buffer
}

func (w *writing) nums(l ...int) {
	for _, n := range l {
		b, _ := wire.Num(n)
		w.Write(b)
	}
}

func (w *writing) texts(l ...string) {
	for _, s := range l {
		b, _ := wire.Text(s)
		w.Write(b)
	}
}

// flag: a bool as a number.
func flag(so bool) int {
	if so {
		return 1
	}
	return 0
}

// takeText: of a Key, too, up to MaxValue bytes; whether it is short enough for a Key is asked when all is read.
func takeText(r *wire.Reader) string { return r.Text(api.MaxValue) }

func takeCell(r *wire.Reader) api.Point {
	x := r.Num()
	y := r.Num()
	return api.Point{X: x, Y: y}
}

// taken: what was read, if nothing was wrong with the bytes, and it may be.
func taken[T any](r *wire.Reader, read T, right bool) T {
	if !right {
		r.Fail(api.ErrForm)
	}
	if r.Err() != api.OK {
		var none T
		return none
	}
	return read
}

// PutRec: a record as bytes.
func PutRec(r Rec) ([]byte, api.Errno) {
	if !RightRec(r) {
		return nil, api.ErrArg
	}
	var w writing
	w.nums(r.At.X, r.At.Y)
	w.texts(r.Key, r.Value)
	w.nums(r.Ver)
	return w.Bytes(), api.OK
}

// TakeRec: the record that stands next.
func TakeRec(r *wire.Reader) Rec {
	var x Rec
	x.At = takeCell(r)
	x.Key = takeText(r)
	x.Value = takeText(r)
	x.Ver = r.Num()
	return taken(r, x, RightRec(x))
}

// PutOp: a call as bytes.
func PutOp(o Op) ([]byte, api.Errno) {
	if !RightOp(o) {
		return nil, api.ErrArg
	}
	var w writing
	w.nums(o.Kind, o.At.X, o.At.Y)
	w.texts(o.Key, o.Value)
	w.nums(o.Client, o.Seq)
	return w.Bytes(), api.OK
}

// TakeOp: the call that stands next.
func TakeOp(r *wire.Reader) Op {
	var o Op
	o.Kind = r.Num()
	o.At = takeCell(r)
	o.Key = takeText(r)
	o.Value = takeText(r)
	o.Client = r.Num()
	o.Seq = r.Num()
	return taken(r, o, RightOp(o))
}

// PutAns: an answer as bytes.
func PutAns(a Ans) ([]byte, api.Errno) {
	if !RightAns(a) {
		return nil, api.ErrArg
	}
	var w writing
	w.nums(int(a.E), flag(a.Found))
	w.texts(a.Value)
	w.nums(a.Ver)
	return w.Bytes(), api.OK
}

// TakeAns: the answer that stands next.
func TakeAns(r *wire.Reader) Ans {
	var a Ans
	a.E = api.Errno(r.Num())
	found := r.Num()
	a.Found = found == flag(true)
	a.Value = takeText(r)
	a.Ver = r.Num()
	return taken(r, a, all(found == flag(a.Found), RightAns(a)))
}
