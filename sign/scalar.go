package sign

import "chartroom/group"

// challenge returns the factor of the private key in a signature. It is fixed only after R is, so that nobody can choose R by the challenge.
func challenge(public, r int, message []byte) int {
	return scalar("sign", message, r, public)
}

// nonce returns the exponent of R. It depends on the message, because two signatures with one R tell the private key.
func nonce(private int, message []byte) int {
	return scalar("nonce", message, private)
}

// scalar returns the scalar that a tag determines with the bytes of numbers, followed by a message.
func scalar(tag string, message []byte, numbers ...int) int {
	b := make([]byte, 0, len(bytesOf(0))*len(numbers)+len(message))
	for _, n := range numbers {
		eight := bytesOf(n)
		b = append(b, eight[:]...)
	}
	return group.Scalar(tag, append(b, message...))
}

// bytesOf returns the bytes of a number, the most significant one first.
func bytesOf(n int) (b [8]byte) {
	for i := range b {
		b[i] = byte(n >> (56 - 8*i))
	}
	return b
}
