// Package codec encodes values canonically. See shared/doc/01-codec.md.
package codec

import (
	"slices"

	"chartroom/api"
)

// Check validates a value.
func Check(v api.Value) (e api.Errno) {
	if !wellFormed(v) {
		return api.ErrArg
	}
	if depth(v) > api.MaxDepth {
		return api.ErrLimit
	}
	return api.OK
}

// Encode returns the encoding of a value.
func Encode(v api.Value) (b []byte, e api.Errno) {
	n, e := Size(v)
	if e != api.OK {
		return nil, e
	}
	return write(make([]byte, 0, n), v), api.OK
}

// Decode returns the value of an encoding.
func Decode(b []byte) (v api.Value, e api.Errno) {
	defer func() {
		if recover() != nil {
			v, e = api.Value{}, api.ErrCode
		}
	}()
	r := reader{rest: b}
	v = r.value(0)
	if len(r.rest) > 0 {
		panic(api.ErrCode)
	}
	return v, api.OK
}

// Size returns the length of the encoding of a value.
func Size(v api.Value) (n int, e api.Errno) {
	if e = Check(v); e != api.OK {
		return 0, e
	}
	return size(v), api.OK
}

// Same reports whether two values are equal.
func Same(a, b api.Value) (same bool) {
	return a.Kind == b.Kind && a.N == b.N && a.S == b.S && slices.EqualFunc(a.L, b.L, Same)
}

// wellFormed reports whether v and all values in it have a kind, and only the fields of their kinds.
func wellFormed(v api.Value) bool {
	switch v.Kind {
	case api.IntV:
		return v.S == "" && len(v.L) == 0
	case api.TextV:
		return v.N == 0 && len(v.L) == 0
	case api.ListV:
		for _, x := range v.L {
			if !wellFormed(x) {
				return false
			}
		}
		return v.N == 0 && v.S == ""
	}
	return false
}

// depth returns how many lists lie within each other in a value that is well-formed.
func depth(v api.Value) int {
	if v.Kind != api.ListV {
		return 0
	}
	most := 0
	for _, x := range v.L {
		most = max(most, depth(x))
	}
	return 1 + most
}

// size returns the length of the encoding of a value that Check accepts.
func size(v api.Value) int {
	switch v.Kind {
	case api.IntV:
		return 1 + numeralSize(unsigned(v.N))
	case api.TextV:
		return 1 + numeralSize(uint64(len(v.S))) + len(v.S)
	}
	n := 1 + numeralSize(uint64(len(v.L)))
	for _, x := range v.L {
		n += size(x)
	}
	return n
}
