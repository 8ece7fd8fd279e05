package session

import (
	"glebe/point"
	"glebe/wire"
)

// answer: what a client was told, and how that goes into bytes.
type answer struct {
	point.Ans
}

// row: of a client the greatest Seq that was noted, and its answer; where nothing was, Seq 0 and the zero answer, so that rows tell the same just if they are ==.
type row struct {
	answer
	seq int
}

// told: just an answer that may be is noted, so point refuses none.
func (a answer) told() []byte {
	b, _ := point.PutAns(a.Ans)
	return b
}

// bytes: just a Seq that may be is noted, so wire refuses none.
func (r row) bytes() []byte {
	b, _ := wire.Num(r.seq)
	if r.seq == 0 {
		return b
	}
	return append(b, r.told()...)
}

// takeRow: the row that stands next. A reader with an error answers a Seq of 0, behind which nothing is read.
func takeRow(from *wire.Reader) row {
	var r row
	r.seq = from.Upto(point.MaxSeq)
	if r.seq > 0 {
		r.Ans = point.TakeAns(from)
	}
	return r
}
