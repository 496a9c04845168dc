package frame

const polynomial = 0xEDB88320

// Sum returns the checksum of all parts, one behind the other.
func Sum(parts ...[]byte) uint32 { return More(0, parts...) }

// More returns the checksum of bytes whose checksum is sum, followed by all parts. Inverting sum gives back what it was ahead of the last inversion; that of no bytes is 0.
func More(sum uint32, parts ...[]byte) uint32 {
	state := ^sum
	for _, p := range parts {
		for _, b := range p {
			state = shiftByte(state ^ uint32(b))
		}
	}
	return ^state
}

// shiftByte shifts a byte out of the state. The byte that is processed has been XORed into the lowest bits, so that such a bit is set where the two differ.
func shiftByte(state uint32) uint32 {
	for range 8 {
		differs := state&1 == 1
		state >>= 1
		if differs {
			state ^= polynomial
		}
	}
	return state
}
