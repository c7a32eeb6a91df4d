package sync

import (
	"portcullis/api"
)

const (
	step = 7         // bits that a byte has of a number
	more = 1 << step // stands in all bytes of a number but the last
	last = 64 / step // where the last byte of the longest number stands; it has the one bit that is left of 64
)

// write appends a number.
func write(b []byte, n int) []byte {
	z := uint64(n) << 1 // zigzag: the sign goes to the low end
	if n < 0 {
		z = ^z
	}
	for ; z >= more; z >>= step {
		b = append(b, byte(z%more+more))
	}
	return append(b, byte(z))
}

// read gives the number that bytes begin with, and how many they are.
func read(b []byte) (n, used int, err error) {
	var z uint64
	for i, c := range b {
		tooMuch := i == last && c > 1
		needless := i > 0 && c == 0
		if tooMuch || needless {
			return 0, 0, api.ErrSyntax
		}
		z |= uint64(c%more) << (step * i)
		if c < more {
			return signed(z), i + 1, nil
		}
	}
	return 0, 0, api.ErrShort
}

// signed is the number of a zigzag.
func signed(z uint64) int {
	n := int(z >> 1)
	if z%2 == 1 {
		return ^n
	}
	return n
}
