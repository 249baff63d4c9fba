package bits_test

import (
	"math"
	"math/big"

	"tapline/api"
)

// The model says what the chapter says, with integers that have no bounds; it shares nothing with the package.

var (
	i1 = api.Int{Size: 1, Signed: true}
	u1 = api.Int{Size: 1}
	i2 = api.Int{Size: 2, Signed: true}
	u2 = api.Int{Size: 2}
	i4 = api.Int{Size: 4, Signed: true}
	u4 = api.Int{Size: 4}
	i8 = api.Int{Size: 8, Signed: true}
	u8 = api.Int{Size: 8}

	allTypes      = []api.Int{i1, u1, i2, u2, i4, u4, i8, u8}
	promotedTypes = []api.Int{i4, u4, i8, u8} // in the order of the common type
	ringOps       = []int{api.BiAdd, api.BiSub, api.BiMul, api.BiAnd, api.BiOr, api.BiXor}
)

func invalidTypes() []api.Int {
	var out []api.Int
	for _, size := range []int{math.MinInt, -8, -4, -1, 0, 3, 5, 6, 7, 9, 10, 16, 32, 64, 1 << 32, math.MaxInt} {
		out = append(out, api.Int{Size: size}, api.Int{Size: size, Signed: true})
	}
	return out
}

// patterns returns int64 values around the bounds of every type, and a few in between.
func patterns() []int64 {
	out := []int64{2, -2, 3, -5, 7, -10, 100, 0x5555555555555555, -0x123456789abcdef, 0x0102030405060708}
	for _, w := range []int{0, 7, 8, 15, 16, 31, 32, 63} {
		p := int64(1) << w
		out = append(out, p-1, p, p+1, -p-1, -p, -p+1)
	}
	return unique(out)
}

// shortPatterns returns the patterns that matter most, for laws of many variables.
func shortPatterns() []int64 {
	return []int64{0, 1, -1, 2, -7, 10, 127, 128, -128, 255, 256, 32767, -32768, 65535, 1<<31 - 1, 1 << 31, -1 << 31, 1<<32 - 1, 1 << 32, math.MaxInt64, math.MinInt64, math.MinInt64 + 1, 0x123456789abcdef}
}

// valuesOf returns the values of a type that patterns have.
func valuesOf(t api.Int, patterns []int64) []int64 {
	var out []int64
	for _, p := range patterns {
		out = append(out, modelWrap(t, p))
	}
	return unique(out)
}

func unique(l []int64) []int64 {
	seen := map[int64]bool{}
	var out []int64
	for _, v := range l {
		if !seen[v] {
			seen[v] = true
			out = append(out, v)
		}
	}
	return out
}

func power(n int) *big.Int {
	return new(big.Int).Lsh(big.NewInt(1), uint(n))
}

// reduced returns the number of a type that is congruent to n.
func reduced(t api.Int, n *big.Int) *big.Int {
	m := new(big.Int).And(n, new(big.Int).Sub(power(8*t.Size), big.NewInt(1)))
	if t.Signed && m.Bit(8*t.Size-1) == 1 {
		m.Sub(m, power(8*t.Size))
	}
	return m
}

// stored returns the int64 that represents a number.
func stored(n *big.Int) int64 {
	return reduced(i8, n).Int64()
}

func modelNumber(t api.Int, v int64) *big.Int {
	return reduced(t, big.NewInt(v))
}

func modelWrap(t api.Int, v int64) int64 {
	return stored(modelNumber(t, v))
}

// hasNumber reports whether a type has a value with the number n.
func hasNumber(t api.Int, n *big.Int) bool {
	return reduced(t, n).Cmp(n) == 0
}

func modelPromote(t api.Int) api.Int {
	if t.Size == 1 || t.Size == 2 {
		return i4
	}
	return t
}

func modelUsual(a, b api.Int) api.Int {
	var out api.Int
	for _, t := range promotedTypes {
		if modelPromote(a) == t || modelPromote(b) == t {
			out = t
		}
	}
	return out
}

func modelUnary(op int, t api.Int, v int64) (api.Int, int64) {
	n, p := modelNumber(t, v), modelPromote(t)
	switch op {
	case api.UnNeg:
		return p, stored(reduced(p, new(big.Int).Neg(n)))
	case api.UnNot:
		return p, stored(reduced(p, new(big.Int).Not(n)))
	}
	if n.Sign() == 0 {
		return i4, 1
	}
	return i4, 0
}

func modelBinary(op int, ta api.Int, a int64, tb api.Int, b int64) (api.Int, int64, api.Errno) {
	x, y := modelNumber(ta, a), modelNumber(tb, b)
	if op == api.BiShl || op == api.BiShr {
		p := modelPromote(ta)
		return p, modelShift(op, p, reduced(p, x), y), api.OK
	}
	c := modelUsual(ta, tb)
	x, y = reduced(c, x), reduced(c, y)
	if op >= api.BiLt {
		return i4, modelRelation(op, x.Cmp(y)), api.OK
	}
	if (op == api.BiDiv || op == api.BiMod) && y.Sign() == 0 {
		return api.Int{}, 0, api.ErrDivide
	}
	z := new(big.Int)
	switch op {
	case api.BiAdd:
		z.Add(x, y)
	case api.BiSub:
		z.Sub(x, y)
	case api.BiMul:
		z.Mul(x, y)
	case api.BiDiv:
		z.Quo(x, y)
	case api.BiMod:
		z.Rem(x, y)
	case api.BiAnd:
		z.And(x, y)
	case api.BiOr:
		z.Or(x, y)
	case api.BiXor:
		z.Xor(x, y)
	}
	return c, stored(reduced(c, z)), api.OK
}

func modelShift(op int, p api.Int, x, y *big.Int) int64 {
	n := uint(new(big.Int).Mod(y, big.NewInt(int64(8*p.Size))).Int64())
	if op == api.BiShl {
		return stored(reduced(p, new(big.Int).Lsh(x, n)))
	}
	return stored(new(big.Int).Rsh(x, n))
}

func modelRelation(op, order int) int64 {
	holds := false
	switch op {
	case api.BiLt:
		holds = order == -1
	case api.BiLe:
		holds = order != 1
	case api.BiGt:
		holds = order == 1
	case api.BiGe:
		holds = order != -1
	case api.BiEq:
		holds = order == 0
	case api.BiNe:
		holds = order != 0
	}
	if holds {
		return 1
	}
	return 0
}

// scattered returns n patterns that follow a fixed rule and have many lengths.
func scattered(n int) []int64 {
	var out []int64
	x := uint64(88172645463325252)
	for range n {
		x ^= x << 13
		x ^= x >> 7
		x ^= x << 17
		out = append(out, int64(x)>>(x%61))
	}
	return out
}
