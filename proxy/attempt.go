package proxy

import "chartroom/api"

// attempt returns what a function returns, or, with a zero value, the error with which it panics.
func attempt[T any](f func() T) (x T, e api.Errno) {
	defer func() {
		if first, failed := recover().(api.Errno); failed {
			e = first
		}
	}()
	return f(), api.OK
}

// ensure panics with an error, if there is one.
func ensure(e api.Errno) {
	if e != api.OK {
		panic(e)
	}
}

// must returns a number, unless there is an error with it: then it panics with that.
func must(n int, e api.Errno) int {
	ensure(e)
	return n
}
