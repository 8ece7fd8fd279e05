package wire

import (
	"bytes"

	"glebe/api"
)

// Reader: goes through bytes.
type Reader struct {
	made bool // by Open, so that any other one is known
	rest []byte
	e    api.Errno
}

// Open: a reader of bytes of its own, since those handed in may change later.
func Open(b []byte) *Reader {
	return &Reader{made: true, rest: bytes.Clone(b)}
}

// number: what stands first in b, and in how many bytes.
// It knows of no bound of a caller's: bytes that end too early are ErrEnd, whatever their groups come to so far.
func number(b []byte) (n, size int, e api.Errno) {
	e = api.ErrForm
	for i, c := range b {
		n |= int(c&groupMask) << (groupBits * i)
		if n > api.MaxNum {
			goto fault
		}
		if i > 0 && c == 0 {
			goto fault
		}
		if i == mostGroups-1 && c >= more {
			goto fault
		}
		if c < more {
			return n, i + 1, api.OK
		}
	}
	e = api.ErrEnd
fault:
	return 0, 0, e
}

// Num: the next number.
func (r *Reader) Num() int { return r.Upto(api.MaxNum) }

// Upto: the next number, if it is not above most.
func (r *Reader) Upto(most int) int {
	if r.Err() != api.OK {
		return 0
	}
	n, size, e := number(r.rest)
	if e == api.OK && n > most {
		e = api.ErrForm
	}
	if e != api.OK {
		r.Fail(e)
		return 0
	}
	r.rest = r.rest[size:]
	return n
}

// Text: the next text, if it has no more than most bytes.
func (r *Reader) Text(most int) string {
	n := r.Upto(most)
	if n > r.Left() {
		r.Fail(api.ErrEnd)
	}
	if r.Err() != api.OK {
		return ""
	}
	s := string(r.rest[:n])
	r.rest = r.rest[n:]
	return s
}

// Left: how many bytes are still to come.
func (r *Reader) Left() int {
	if r.Err() != api.OK {
		return 0
	}
	return len(r.rest)
}

// Fail: the first error stays.
func (r *Reader) Fail(e api.Errno) {
	if r.Err() == api.OK {
		r.e = e
	}
}

// Err: the error so far.
func (r *Reader) Err() api.Errno {
	if r == nil || !r.made {
		return api.ErrArg
	}
	return r.e
}

// Done: the error, or whether all was read.
func (r *Reader) Done() api.Errno {
	if e := r.Err(); e != api.OK {
		return e
	}
	if len(r.rest) > 0 {
		return api.ErrForm
	}
	return api.OK
}
