package codec

import "chartroom/api"

// maxDigits is the number of digits of the largest numeral. Nine digits hold 63 of the 64 bits, so that the tenth is at most 1.
const maxDigits = 10

// reader reads values. Its methods panic with ErrCode where no encoding goes on like that.
type reader struct{ rest []byte }

// take returns the next n bytes.
func (r *reader) take(n uint64) []byte {
	if n > uint64(len(r.rest)) {
		panic(api.ErrCode)
	}
	b := r.rest[:n:n]
	r.rest = r.rest[n:len(r.rest):len(r.rest)]
	return b
}

// numeral reads a numeral. It refuses superfluous digits and numbers with more than 64 bits.
func (r *reader) numeral() (u uint64) {
	for i := range maxDigits {
		c := r.take(1)[0]
		if i == maxDigits-1 && c > 1 {
			panic(api.ErrCode)
		}
		u |= uint64(c%more) << (7 * i)
		if c < more {
			if c == 0 && i > 0 {
				panic(api.ErrCode)
			}
			break
		}
	}
	return u
}

// value reads a value that lies within so many lists.
func (r *reader) value(lists int) api.Value {
	switch kind := int(r.take(1)[0]); kind {
	case api.IntV:
		return api.Value{Kind: kind, N: signed(r.numeral())}
	case api.TextV:
		return api.Value{Kind: kind, S: string(r.take(r.numeral()))}
	case api.ListV:
		return api.Value{Kind: kind, L: r.list(lists + 1)}
	}
	panic(api.ErrCode)
}

// list reads the elements of a list of that nesting. It makes no room in advance: the number of elements may be a lie.
func (r *reader) list(lists int) (l []api.Value) {
	if lists > api.MaxDepth {
		panic(api.ErrCode)
	}
	for n := r.numeral(); n > 0; n-- {
		l = append(l, r.value(lists))
	}
	return l
}
