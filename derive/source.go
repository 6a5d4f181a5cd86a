package derive

import (
	"bytes"

	"chartroom/api"
	"chartroom/codec"
	"chartroom/digest"
)

// source collects the bytes of which, under its tag, the hash is a key.
type source struct {
	tag string
	bytes.Buffer
}

func (s *source) key() api.Key {
	return api.Key(digest.Tagged(s.tag, s.Bytes()))
}

// encoding returns the bytes for a label and numbers. They are those of a list, because no two lists have the same ones.
func encoding(label string, numbers []int) []byte {
	l := make([]api.Value, 0, 1+len(numbers))
	l = append(l, api.Value{Kind: api.TextV, S: label})
	for _, n := range numbers {
		l = append(l, api.Value{Kind: api.IntV, N: n})
	}
	// There is no error: every text and every integer can be encoded, and a list of them.
	b, _ := codec.Encode(api.Value{Kind: api.ListV, L: l})
	return b
}
