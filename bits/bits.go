// Package bits implements the integer types of C: conversions, arithmetic, comparison, bytes and text. See shared/doc/01-bits.md.
package bits

import "tapline/api"

// Check returns OK for a valid integer type.
func Check(t api.Int) api.Errno {
	if !valid(t) {
		return api.ErrInt
	}
	return api.OK
}

// Wrap returns the value of a type that a 64-bit pattern is truncated to.
func Wrap(t api.Int, v int64) (int64, api.Errno) {
	if !valid(t) {
		return 0, api.ErrInt
	}
	return wrap(t, v), api.OK
}

// Range returns the values of a type that have the least and the greatest number.
func Range(t api.Int) (int64, int64, api.Errno) {
	if !valid(t) {
		return 0, 0, api.ErrInt
	}
	if !t.Signed {
		return 0, wrap(t, -1), api.OK
	}
	least := int64(-1) << (width(t) - 1)
	return least, ^least, api.OK
}

// Promote returns the type to which an operand of a type is promoted.
func Promote(t api.Int) (api.Int, api.Errno) {
	if !valid(t) {
		return api.Int{}, api.ErrInt
	}
	return promoted(t), api.OK
}

// Usual returns the common type of two operands.
func Usual(a, b api.Int) (api.Int, api.Errno) {
	if !valid(a) || !valid(b) {
		return api.Int{}, api.ErrInt
	}
	return common(a, b), api.OK
}

// Convert returns a value of one type converted to another one.
func Convert(from, to api.Int, v int64) (int64, api.Errno) {
	if !valid(from) || !valid(to) {
		return 0, api.ErrInt
	}
	return wrap(to, wrap(from, v)), api.OK
}

// Unary returns the type and the value of a unary operation.
func Unary(op int, t api.Int, v int64) (api.Int, int64, api.Errno) {
	if !valid(t) {
		return api.Int{}, 0, api.ErrInt
	}
	apply, ok := unaries()[op]
	if !ok {
		return api.Int{}, 0, api.ErrOper
	}
	result, n := apply(t, wrap(t, v))
	return result, n, api.OK
}

// Binary returns the type and the value of a binary operation.
func Binary(op int, ta api.Int, a int64, tb api.Int, b int64) (api.Int, int64, api.Errno) {
	if !valid(ta) || !valid(tb) {
		return api.Int{}, 0, api.ErrInt
	}
	a, b = wrap(ta, a), wrap(tb, b)
	if apply, ok := shifts()[op]; ok {
		p := promoted(ta)
		return p, wrap(p, apply(p, wrap(p, a), count(p, b))), api.OK
	}
	c := common(ta, tb)
	a, b = wrap(c, a), wrap(c, b)
	if apply, ok := arithmetic()[op]; ok {
		v, e := apply(c, a, b)
		if e != api.OK {
			return api.Int{}, 0, e
		}
		return c, wrap(c, v), api.OK
	}
	if holds, ok := relations()[op]; ok {
		return plain, truth(holds(order(c, a, b))), api.OK
	}
	return api.Int{}, 0, api.ErrOper
}

// Compare returns -1, 0 or 1 as the first value is less than, equal to or greater than the second one.
func Compare(t api.Int, a, b int64) (int, api.Errno) {
	if !valid(t) {
		return 0, api.ErrInt
	}
	return order(t, wrap(t, a), wrap(t, b)), api.OK
}

// Bytes returns the bytes of a value, least significant first.
func Bytes(t api.Int, v int64) ([]byte, api.Errno) {
	if !valid(t) {
		return nil, api.ErrInt
	}
	out := make([]byte, t.Size)
	for i := range out {
		out[i] = byte(v >> (8 * i))
	}
	return out, api.OK
}

// FromBytes returns the value that bytes represent.
func FromBytes(t api.Int, b []byte) (int64, api.Errno) {
	if !valid(t) {
		return 0, api.ErrInt
	}
	if len(b) != t.Size {
		return 0, api.ErrArg
	}
	v := int64(0)
	for i, x := range b {
		v |= int64(x) << (8 * i)
	}
	return wrap(t, v), api.OK
}

// Text returns a value in decimal digits.
func Text(t api.Int, v int64) (string, api.Errno) {
	if !valid(t) {
		return "", api.ErrInt
	}
	return text(numberOf(t, wrap(t, v))), api.OK
}

// Parse returns the value of a string of decimal or hexadecimal digits.
func Parse(t api.Int, s string) (int64, api.Errno) {
	if !valid(t) {
		return 0, api.ErrInt
	}
	n, ok := read(s)
	if !ok {
		return 0, api.ErrText
	}
	v := wrap(t, n.pattern())
	if numberOf(t, v) != n {
		return 0, api.ErrText
	}
	return v, api.OK
}
