package wrap

import (
	"chartroom/api"
	"chartroom/derive"
	"chartroom/digest"
	"chartroom/group"
)

// elementSize is the number of bytes of an element.
const elementSize = 8

// elements are a public key, U and V.
type elements [3]int

// bytes returns the bytes of the elements, one after the other.
func (l elements) bytes() (b [3 * elementSize]byte) {
	for i, a := range l {
		for j := range elementSize {
			b[i*elementSize+j] = byte(a >> (8 * (elementSize - 1 - j)))
		}
	}
	return b
}

// side is one of both sides of a wrap: each one knows another exponent that leads to V.
type side interface {
	sender | receiver
	elements() elements
}

// keyOf returns the key of a wrap.
func keyOf[S side](s S) api.Key {
	b := s.elements().bytes()
	return api.Key(digest.Tagged("wrap", b[:]))
}

// sender is the holder of the seed, from which the exponent comes.
type sender struct {
	public, exponent, u int
}

// newSender returns the sender for a valid public key.
func newSender(public int, seed api.Key) sender {
	exponent := derive.Scalar(seed, "wrap")
	// There is no error: what derive returns is a scalar.
	u, _ := group.Base(exponent)
	return sender{public: public, exponent: exponent, u: u}
}

func (s sender) elements() elements {
	v, _ := group.Exp(s.public, s.exponent)
	return elements{s.public, s.u, v}
}

// receiver is the holder of the private key. Its numbers are valid, so that nothing fails.
type receiver struct {
	public, private, u int
}

func (r receiver) elements() elements {
	v, _ := group.Exp(r.u, r.private)
	return elements{r.public, r.u, v}
}
