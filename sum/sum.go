// Package sum is layer 1: a sum of bytes: see shared/doc/01-sum.md.
package sum

const (
	turner      = 0x04C11DB7
	registerTop = 31
	byteBits    = 8
	byteTop     = byteBits - 1
)

// Of is the sum of bytes, in parts.
func Of(parts ...[]byte) uint32 {
	// The sum of no bytes is 0: a register of all ones, with all bits turned.
	var sum uint32
	for _, part := range parts {
		sum = On(sum, part)
	}
	return sum
}

// On is the sum of bytes with others behind them.
func On(sum uint32, b []byte) uint32 {
	// A sum is its register with all bits turned, so turning them back goes on where it ended.
	register := ^sum
	for _, one := range b {
		register = feed(register, one)
	}
	return ^register
}

// feed is the register behind one more byte.
func feed(register uint32, one byte) uint32 {
	for range byteBits {
		unlike := register>>registerTop != uint32(one>>byteTop)
		register <<= 1
		one <<= 1
		if unlike {
			register ^= turner
		}
	}
	return register
}
