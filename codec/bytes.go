package codec

import "bytes"

// Hash returns the 64-bit FNV-1a hash of bytes.
func Hash(b []byte) uint64 {
	hash := uint64(0xcbf29ce484222325)
	for _, x := range b {
		hash = (hash ^ uint64(x)) * 0x100000001b3
	}
	return hash
}

// Little returns the unsigned little-endian number of 1 to 4 bytes from an index on, or 0 if they are not all there.
func Little(b []byte, at, size int) int {
	if !hasNumber(b, at, size) {
		return 0
	}
	value := 0
	for i := range size {
		value |= int(b[at+i]) << (8 * i)
	}
	return value
}

// PutLittle returns a copy of b in which the lowest bits of value fill 1 to 4 bytes from an index on, if they are all there.
func PutLittle(b []byte, at, size, value int) []byte {
	result := bytes.Clone(b)
	if !hasNumber(b, at, size) {
		return result
	}
	for i := range size {
		result[at+i] = byte(value >> (8 * i))
	}
	return result
}

// hasNumber reports whether a number may have this size and all of its bytes exist.
func hasNumber(b []byte, at, size int) bool {
	// The end is compared by subtraction, because at+size may overflow.
	return 1 <= size && size <= 4 && 0 <= at && at <= len(b)-size
}
