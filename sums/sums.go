// Package sums is layer 1: see shared/doc/01-sums.md.
package sums

import (
	"sallyport/api"
)

// top is the greatest sum; sums are the same modulo it.
const top uint16 = 65535

// Sum is the ones' complement sum of bytes, two by two; Field what a header's field has for it.
func Sum(b []byte) uint16 {
	// 64 bits hold the total of any list within the document's bound, so it is enough to fold once, at the end.
	var total uint64
	for i := range len(b) {
		total += uint64(b[i]) << shiftAt(i)
	}
	return fold(total)
}

func Field(b []byte) uint16 { return top - Sum(b) }

// Add and Sub are of two sums; Same tells whether two are congruent.
func Add(a, b uint16) uint16 { return fold(uint64(a) + uint64(b)) }
func Sub(a, b uint16) uint16 { return Add(a, top-b) }
func Same(a, b uint16) bool  { return a%top == b%top }

// Diff is by how much a sum changes from some bytes to others; Update a field whose two bytes became others.
func Diff(old, now []byte) (uint16, api.Errno) {
	if len(old) != len(now) || len(old)%2 != 0 {
		return 0, api.ErrArg
	}
	return Sub(Sum(now), Sum(old)), api.OK
}

func Update(field, old, now uint16) uint16 {
	return top - Add(Add(top-field, top-old), now)
}

// shiftAt is by how far the byte at a place is shifted: a byte at an even place is the high one of its two, also where it stands alone.
func shiftAt(place int) int {
	if place%2 == 0 {
		return 8
	}
	return 0
}

// fold puts back what goes beyond sixteen bits; putting it back can go beyond them again, hence the loop.
func fold(total uint64) uint16 {
	for total>>16 != 0 {
		total = total&uint64(top) + total>>16
	}
	return uint16(total)
}
