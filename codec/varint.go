package codec

import "frustum/api"

const (
	// groupBits is the number of bits of a number in each byte of its varint.
	groupBits = 7
	// another is the bit of a byte that says that another one follows.
	another = 1 << groupBits
	// lastShift is the place of the tenth group, which has room for a single bit of the number.
	lastShift = 9 * groupBits
)

// putInt appends the encoding of an int to bytes that belong to the caller.
func putInt(b []byte, n int) []byte {
	u := fold(n)
	for u >= another {
		b = append(b, byte(u)|another)
		u >>= groupBits
	}
	return append(b, byte(u))
}

// getVarint reads a varint at an index that is not negative and not greater than len(b), and returns the index after it.
func getVarint(b []byte, at int) (uint64, int, api.Errno) {
	u, shift := uint64(0), 0
next:
	if at == len(b) {
		return 0, 0, api.ErrTruncated
	}
	group := b[at]
	if shift == lastShift && group > 1 {
		// Also if the bytes end here: whatever follows, the tenth byte has a bit too many or is not the last one.
		return 0, 0, api.ErrSyntax
	}
	u |= uint64(group%another) << shift
	at++
	if group >= another {
		shift += groupBits
		goto next
	}
	if group == 0 && shift > 0 {
		// The number is complete without its last byte, so it has a shorter varint.
		return 0, 0, api.ErrSyntax
	}
	return u, at, api.OK
}

// fold maps ints to numbers without a sign, such that a small magnitude gives a small number: 2n if n >= 0, and -2n-1 otherwise.
func fold(n int) uint64 {
	if n < 0 {
		// The complement of n is -n-1; twice that and 1 more is -2n-1, and never overflows.
		return 2*uint64(^n) + 1
	}
	return 2 * uint64(n)
}

// unfold returns the int that fold maps to u.
func unfold(u uint64) int {
	if u%2 == 1 {
		return ^int(u / 2)
	}
	return int(u / 2)
}
