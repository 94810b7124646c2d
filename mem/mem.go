// Package mem: address spaces, what may be done with a page, and numbers as they stand in memory.
package mem

import "tinyos/api"

// What may be done with a page; a page's Perm is a sum of these.
const (
	Execute api.Perm = 1 << iota
	Write
	Read
)

const (
	WordSize   = 8                            // bytes of an address, or of a register
	StackStart = api.StackPage * api.PageSize // the first address of the stack
	SpaceEnd   = api.MaxPages * api.PageSize  // the address behind the last one
)

// IsPerm tells whether a number is what may be done with a page: something, but not both to write and to execute.
func IsPerm(n uint64) bool {
	const both = uint64(Write | Execute)
	return n >= 1 && n <= uint64(Execute|Write|Read) && n&both != both
}

// Number is the number that all of b makes, the lowest byte first.
func Number(b []byte) uint64 {
	n := uint64(0)
	for i := len(b) - 1; i >= 0; i-- {
		n = n<<8 | uint64(b[i])
	}
	return n
}

// PutWords writes numbers of 8 bytes into b, one behind the other.
func PutWords(b []byte, words ...uint64) {
	for i, w := range words {
		for k := range WordSize {
			b[i*WordSize+k] = byte(w >> (8 * k))
		}
	}
}
