package ctf

import "tapline/api"

// beginning is what the bytes of type data begin with.
const beginning = "CTF\x01"

// The functions below return bytes with those of a value behind them.

func appendInt(b []byte, x int) []byte {
	n := uint64(x) << 1
	if x < 0 {
		n = ^n // -2x - 1
	}
	for n >= 128 {
		b = append(b, byte(n)|128)
		n >>= 7
	}
	return append(b, byte(n))
}

func appendBool(b []byte, x bool) []byte {
	if x {
		return append(b, 1)
	}
	return append(b, 0)
}

func appendString(b []byte, s string) []byte {
	return append(appendInt(b, len(s)), s...)
}

func appendList[T any](b []byte, list []T, add func(b []byte, x T) []byte) []byte {
	b = appendInt(b, len(list))
	for _, x := range list {
		b = add(b, x)
	}
	return b
}

func appendDef(b []byte, d api.Def) []byte {
	b = appendInt(b, d.Kind)
	b = appendString(b, d.Name)
	b = appendInt(b, d.Int.Size)
	b = appendBool(b, d.Int.Signed)
	b = appendInt(b, d.Ref)
	b = appendInt(b, d.N)
	return appendList(b, d.Fields, appendField)
}

func appendField(b []byte, f api.Field) []byte {
	b = appendString(b, f.Name)
	b = appendInt(b, f.Type)
	return appendInt(b, f.At)
}
