package codec

import "chartroom/api"

// writers returns the functions that append the encoding of a value, by the kind of the value.
func writers() [api.ListV + 1]func(b []byte, v api.Value) []byte {
	return [...]func(b []byte, v api.Value) []byte{
		api.IntV:  writeInt,
		api.TextV: writeText,
		api.ListV: writeList,
	}
}

// write appends the encoding of a value that Check accepts.
func write(b []byte, v api.Value) []byte {
	return writers()[v.Kind](append(b, byte(v.Kind)), v)
}

func writeInt(b []byte, v api.Value) []byte {
	return appendNumeral(b, unsigned(v.N))
}

func writeText(b []byte, v api.Value) []byte {
	return append(appendNumeral(b, uint64(len(v.S))), v.S...)
}

func writeList(b []byte, v api.Value) []byte {
	b = appendNumeral(b, uint64(len(v.L)))
	for _, x := range v.L {
		b = write(b, x)
	}
	return b
}
