package pake

import "chartroom/group"

// The numbers of the roles.
const (
	hostRole  = 1
	guestRole = 2
)

// A role is what distinguishes a side from the other one: name makes its mask, and ordered returns the point of the host before that of the guest.
type role struct {
	name    string
	ordered func(own, peer int) (host, guest int)
}

// roles returns the roles by their numbers.
func roles() map[int]role {
	return map[int]role{
		hostRole:  {name: "host", ordered: func(own, peer int) (int, int) { return own, peer }},
		guestRole: {name: "guest", ordered: func(own, peer int) (int, int) { return peer, own }},
	}
}

// other returns the number of the other role.
func other(number int) int {
	return hostRole + guestRole - number
}

// cover returns the factor that hides a power of G in the point of a role, and that only who has the code can take out again: the mask of the role to the power of the password.
func cover(r role, code int) int {
	mask := group.Point("pake", []byte(r.name))
	// There is no error: a point is an element, and a password is a scalar.
	c, _ := group.Exp(mask, password(code))
	return c
}

// password returns the scalar of a code.
func password(code int) int {
	return group.Scalar("code", bytesOf(code))
}
