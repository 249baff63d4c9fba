package bits

import (
	"cmp"

	"tapline/api"
)

// plain is the type of truth values, and the promoted type of all that are shorter.
var plain = api.Int{Size: 4, Signed: true}

// native is one of Go's own integer types.
type native interface {
	int8 | int16 | int32 | int64 | uint8 | uint16 | uint32 | uint64
}

// through returns what is left of v in the type T.
func through[T native](v int64) int64 {
	return int64(T(v))
}

func valid(t api.Int) bool {
	switch t.Size {
	case 1, 2, 4, 8:
		return true
	}
	return false
}

func width(t api.Int) uint64 {
	return 8 * uint64(t.Size)
}

// wrap returns v wrapped to a valid type.
func wrap(t api.Int, v int64) int64 {
	switch t {
	case api.Int{Size: 1, Signed: true}:
		return through[int8](v)
	case api.Int{Size: 1}:
		return through[uint8](v)
	case api.Int{Size: 2, Signed: true}:
		return through[int16](v)
	case api.Int{Size: 2}:
		return through[uint16](v)
	case api.Int{Size: 4, Signed: true}:
		return through[int32](v)
	case api.Int{Size: 4}:
		return through[uint32](v)
	case api.Int{Size: 8, Signed: true}:
		return through[int64](v)
	}
	return through[uint64](v)
}

// promoted returns the promoted type of a valid type.
func promoted(t api.Int) api.Int {
	if t.Size < plain.Size {
		return plain
	}
	return t
}

// common returns the common type of two valid types.
func common(a, b api.Int) api.Int {
	a, b = promoted(a), promoted(b)
	if a.Size > b.Size || a.Size == b.Size && !a.Signed {
		return a
	}
	return b
}

// order compares two values of a type by their numbers.
func order(t api.Int, a, b int64) int {
	if t.Signed {
		return cmp.Compare(a, b)
	}
	return cmp.Compare(uint64(a), uint64(b))
}
