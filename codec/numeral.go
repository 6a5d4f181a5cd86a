package codec

import "math/bits"

// more is added to each digit of a numeral that another digit follows. It is also the base.
const more = 128

// unsigned returns the unsigned form of n: 2n, or -2n - 1 if n is negative.
func unsigned(n int) uint64 {
	return uint64(n)<<1 ^ uint64(n>>63)
}

// signed returns the integer whose unsigned form is u.
func signed(u uint64) int {
	return int(u>>1) ^ -int(u&1)
}

// appendNumeral appends the numeral of u to b.
func appendNumeral(b []byte, u uint64) []byte {
	for ; u >= more; u /= more {
		b = append(b, byte(u%more)+more)
	}
	return append(b, byte(u))
}

// numeralSize returns the length of the numeral of u. The number 0 has one digit, as 1 has.
func numeralSize(u uint64) int {
	return (bits.Len64(u|1) + 6) / 7
}
