package sign

import (
	"chartroom/api"
	"chartroom/field"
	"chartroom/group"
)

// A claim says that the owner of a public key has signed a message.
type claim struct {
	public  int
	message []byte
	s       api.Signature
}

// all tells whether all checks hold. It leaves out those after the first that does not.
func all(checks ...func() bool) bool {
	for _, holds := range checks {
		if !holds() {
			return false
		}
	}
	return true
}

func (c claim) hasElements() bool {
	return group.Check(c.public) == api.OK && group.Check(c.s.R) == api.OK
}

func (c claim) hasScalar() bool {
	return field.Check(c.s.S) == api.OK
}

// isBalanced tells whether the equation of the signature holds, whose sides are written as bytes to compare them.
func (c claim) isBalanced() bool {
	left, e := group.Base(c.s.S)
	if e != api.OK {
		return false
	}
	power, e := group.Exp(c.public, challenge(c.public, c.s.R, c.message))
	if e != api.OK {
		return false
	}
	right, e := group.Mul(c.s.R, power)
	return e == api.OK && bytesOf(left) == bytesOf(right)
}
