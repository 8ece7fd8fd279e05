// Package wire is layer 1: numbers, texts and frames as bytes: see shared/doc/01-wire.md.
package wire

import (
	"bytes"

	"glebe/api"
)

// Version: of all frames.
const Version = 3

// How a number is parted into groups of bits, each in a byte.
const (
	groupBits  = 7
	groupMask  = 1<<groupBits - 1
	more       = 1 << groupBits // says that another group follows
	mostGroups = 8
)

// How many bytes the parts of a frame have.
const (
	lengthAt = 2 // behind Version and kind
	headSize = 5
	sumSize  = 4
	maxKind  = 255
)

// polynomial: which bits of the sum's register are turned where its lowest one and a byte's are unlike.
const polynomial = 3988292384

// nibbles: what half a byte turns the sum's register by, when all four of its bits are through.
// Not a whole byte: the table is made for each sum, and most frames are shorter than that would take.
func nibbles() [16]uint32 {
	var table [16]uint32
	for i := range table {
		register := uint32(i)
		for range 4 {
			low := register & 1
			register >>= 1
			if low == 1 {
				register ^= polynomial
			}
		}
		table[i] = register
	}
	return table
}

// Sum: CRC-32.
func Sum(b []byte) int {
	table := nibbles()
	register := ^uint32(0)
	for _, c := range b {
		register ^= uint32(c)
		register = register>>4 ^ table[register&15]
		register = register>>4 ^ table[register&15]
	}
	return int(^register)
}

func appendNum(b []byte, n int) []byte {
	for n >= more {
		b = append(b, byte(n&groupMask|more))
		n >>= groupBits
	}
	return append(b, byte(n))
}

// appendFixed: n in so many bytes, the lowest first.
func appendFixed(b []byte, n, size int) []byte {
	for range size {
		b = append(b, byte(n))
		n >>= 8
	}
	return b
}

// fixed: what appendFixed has put.
func fixed(b []byte) int {
	n := 0
	for i, c := range b {
		n |= int(c) << (8 * i)
	}
	return n
}

// Num: a number as bytes.
func Num(n int) ([]byte, api.Errno) {
	if n < 0 || n > api.MaxNum {
		return nil, api.ErrArg
	}
	return appendNum(nil, n), api.OK
}

// Text: a text as bytes.
func Text(s string) ([]byte, api.Errno) {
	if len(s) > api.MaxBytes {
		return nil, api.ErrSize
	}
	return append(appendNum(nil, len(s)), s...), api.OK
}

// Frame: content as a frame.
func Frame(kind int, b []byte) ([]byte, api.Errno) {
	if kind < 0 || kind > maxKind {
		return nil, api.ErrArg
	}
	if len(b) > api.MaxBytes {
		return nil, api.ErrSize
	}
	out := make([]byte, 0, headSize+len(b)+sumSize)
	out = append(out, Version, byte(kind))
	out = appendFixed(out, len(b), headSize-lengthAt)
	out = append(out, b...)
	return appendFixed(out, Sum(out), sumSize), api.OK
}

// Unframe: what Frame was given.
func Unframe(b []byte) (kind int, content []byte, e api.Errno) {
	if len(b) < headSize {
		return 0, nil, api.ErrEnd
	}
	size := fixed(b[lengthAt:headSize])
	if b[0] != Version || size > api.MaxBytes {
		return 0, nil, api.ErrForm
	}
	end := headSize + size
	switch {
	case len(b) < end+sumSize:
		return 0, nil, api.ErrEnd
	case len(b) > end+sumSize:
		return 0, nil, api.ErrForm
	case fixed(b[end:]) != Sum(b[:end]):
		return 0, nil, api.ErrSum
	}
	return int(b[1]), bytes.Clone(b[headSize:end]), api.OK
}
