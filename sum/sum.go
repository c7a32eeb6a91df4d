// Package sum has sums of bytes.
package sum

import (
	"portcullis/api"
)

// most is the greatest sum: all 16 bits.
const most = 65535

// maxSize is the greatest size that Pad takes multiples of.
const maxSize = 64

// Add two.
func Add(a, b int) (int, error) {
	if !isSum(a) || !isSum(b) {
		return 0, api.ErrRange
	}
	return add(a, b), nil
}

// Sum of bytes.
func Sum(b []byte) int {
	return most - total(b)
}

// Valid tells whether bytes have their sum among them.
func Valid(b []byte) bool {
	return total(b) == most
}

// Update a sum.
func Update(sum, old, now int) (int, error) {
	if !isSum(sum) || !isSum(old) || !isSum(now) {
		return 0, api.ErrRange
	}
	without := add(most-sum, most-old)
	return most - add(without, now), nil
}

// Pad a number.
func Pad(n, size int) (int, error) {
	if size < 1 || size > maxSize || n < 0 || n > api.MaxTime {
		return 0, api.ErrRange
	}
	return (n + size - 1) / size * size, nil
}

func isSum(n int) bool {
	return n >= 0 && n <= most
}

// add is Add of what is known to be in range, so that bytes are summed without errors to look at.
func add(a, b int) int {
	s := a + b
	if s > most {
		s -= most // less 65536, and one more
	}
	return s
}

// total is all pairs of bytes, Added up from 0 on.
func total(b []byte) int {
	t := 0
	for ; len(b) >= 2; b = b[2:] {
		t = add(t, int(b[0])<<8|int(b[1]))
	}
	if len(b) == 1 {
		t = add(t, int(b[0])<<8)
	}
	return t
}
