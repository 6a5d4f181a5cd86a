package wrap

import "chartroom/api"

// call is a call that its first error ends: end sets the results to that error and to zero values.
type call struct {
	end func(e api.Errno)
}

// fails reports whether there is an error, with which it ends the call.
func (c call) fails(e api.Errno) bool {
	if e == api.OK {
		return false
	}
	c.end(e)
	return true
}
