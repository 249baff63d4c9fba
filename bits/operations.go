package bits

import "tapline/api"

// unaries returns the unary operations: each has the type and the value of its result for a value of a type.
func unaries() map[int]func(t api.Int, v int64) (api.Int, int64) {
	return map[int]func(t api.Int, v int64) (api.Int, int64){
		api.UnNeg: func(t api.Int, v int64) (api.Int, int64) { return promoted(t), wrap(promoted(t), -v) },
		api.UnNot: func(t api.Int, v int64) (api.Int, int64) { return promoted(t), wrap(promoted(t), ^v) },
		api.UnLog: func(t api.Int, v int64) (api.Int, int64) { return plain, truth(v == 0) },
	}
}

// arithmetic returns the operations on two values of their common type c; a result is not yet wrapped to it.
func arithmetic() map[int]func(c api.Int, a, b int64) (int64, api.Errno) {
	return map[int]func(c api.Int, a, b int64) (int64, api.Errno){
		api.BiAdd: func(c api.Int, a, b int64) (int64, api.Errno) { return a + b, api.OK },
		api.BiSub: func(c api.Int, a, b int64) (int64, api.Errno) { return a - b, api.OK },
		api.BiMul: func(c api.Int, a, b int64) (int64, api.Errno) { return a * b, api.OK },
		api.BiDiv: quotient,
		api.BiMod: remainder,
		api.BiAnd: func(c api.Int, a, b int64) (int64, api.Errno) { return a & b, api.OK },
		api.BiOr:  func(c api.Int, a, b int64) (int64, api.Errno) { return a | b, api.OK },
		api.BiXor: func(c api.Int, a, b int64) (int64, api.Errno) { return a ^ b, api.OK },
	}
}

// shifts returns the operations on a value of its promoted type p and a count below its width; a result is not yet wrapped to it.
func shifts() map[int]func(p api.Int, a int64, n uint64) int64 {
	return map[int]func(p api.Int, a int64, n uint64) int64{
		api.BiShl: func(p api.Int, a int64, n uint64) int64 { return a << n },
		api.BiShr: right,
	}
}

// relations returns what each relation makes of the order of its operands.
func relations() map[int]func(order int) bool {
	return map[int]func(order int) bool{
		api.BiLt: func(order int) bool { return order < 0 },
		api.BiLe: func(order int) bool { return order <= 0 },
		api.BiGt: func(order int) bool { return order > 0 },
		api.BiGe: func(order int) bool { return order >= 0 },
		api.BiEq: func(order int) bool { return order == 0 },
		api.BiNe: func(order int) bool { return order != 0 },
	}
}

// quotient needs no case of its own for the least value divided by -1: Go's int64 wraps around, and a smaller type is wrapped afterwards.
func quotient(c api.Int, a, b int64) (int64, api.Errno) {
	switch {
	case b == 0:
		return 0, api.ErrDivide
	case c.Signed:
		return a / b, api.OK
	}
	return int64(uint64(a) / uint64(b)), api.OK
}

func remainder(c api.Int, a, b int64) (int64, api.Errno) {
	switch {
	case b == 0:
		return 0, api.ErrDivide
	case c.Signed:
		return a % b, api.OK
	}
	return int64(uint64(a) % uint64(b)), api.OK
}

func right(p api.Int, a int64, n uint64) int64 {
	if p.Signed {
		return a >> n
	}
	return int64(uint64(a) >> n)
}

// count returns the count of a shift of a value of the type p. A width divides 2^64, so a negative b keeps its remainder as an unsigned number.
func count(p api.Int, b int64) uint64 {
	return uint64(b) % width(p)
}

func truth(holds bool) int64 {
	if holds {
		return 1
	}
	return 0
}
