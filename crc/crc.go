// Package crc is layer 1: checksums of bytes, and bending bytes; see shared/doc/01-crc.md.
package crc

// polynomial is combined into a state for each bit 1 that is shifted out of it.
const polynomial = 0xEDB88320

// Sum returns the checksum of the bytes of s.
func Sum(s string) uint32 {
	// The checksum of no bytes is 0: all ones, inverted.
	return extend(0, s)
}

// Add returns the checksum of bytes whose checksum is sum, followed by s.
func Add(sum uint32, s string) uint32 {
	return extend(sum, s)
}

// Bend returns s with the byte at that place, and the three after it, changed by x, lowest bits first.
func Bend(s string, at int, x uint32) string {
	b := []byte(s)
	for range 4 {
		if at >= 0 && at < len(b) {
			b[at] ^= byte(x)
		}
		// Behind the greatest place comes, by wrap-round, one before the beginning: that is ignored as well.
		at++
		x >>= 8
	}
	return string(b)
}

// extend continues a checksum with pieces, one after the other.
func extend(sum uint32, pieces ...string) uint32 {
	shares := byteShares()
	state := ^sum
	for _, piece := range pieces {
		for i := range len(piece) {
			state = state>>8 ^ shares[byte(state)^piece[i]]
		}
	}
	return ^state
}

// byteShares lists what each value of a state's lowest byte contributes to the state once its 8 bits are shifted out.
// The other bits only move down meanwhile, so that a whole byte is done by one look.
func byteShares() [256]uint32 {
	var shares [256]uint32
	for i := range shares {
		state := uint32(i)
		for range 8 {
			state = shiftBit(state)
		}
		shares[i] = state
	}
	return shares
}

// shiftBit shifts one bit out of a state.
func shiftBit(state uint32) uint32 {
	if state&1 == 1 {
		return state>>1 ^ polynomial
	}
	return state >> 1
}
