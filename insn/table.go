package insn

import (
	"math"
	"slices"

	"tapline/api"
)

// The kinds of operands in a line; kindNone stands behind the last operand.
const (
	kindNone = iota
	kindA
	kindB
	kindNumber
	kindAddress
	kindBracket
	kindTarget
	kinds
)

// The layouts of operations.
const (
	bare = iota
	pair
	wide
	narrow
	load
	store
	branch
	leap
	single
	place
	system
	exchange
)

// layout is what operations have in common that have the same operands: how many registers are encoded (none, A, or A and B), how many bytes of Imm, the range of Imm, and the kinds of operands in a line, in their order.
type layout struct {
	registers   int
	size        int
	least, most int64
	operands    [3]int
}

var layouts = []layout{
	bare:     {},
	pair:     {registers: 2, operands: [3]int{kindA, kindB}},
	wide:     {registers: 1, size: 10, least: math.MinInt64, most: math.MaxInt64, operands: [3]int{kindA, kindNumber}},
	narrow:   {registers: 1, size: 1, least: -64, most: 63, operands: [3]int{kindA, kindNumber}},
	load:     {registers: 2, size: 1, least: -64, most: 63, operands: [3]int{kindA, kindAddress}},
	store:    {registers: 2, size: 1, least: -64, most: 63, operands: [3]int{kindAddress, kindA}},
	branch:   {registers: 2, size: 1, least: -64, most: 63, operands: [3]int{kindA, kindB, kindTarget}},
	leap:     {size: 2, least: -8192, most: 8191, operands: [3]int{kindTarget}},
	single:   {registers: 1, operands: [3]int{kindA}},
	place:    {registers: 1, size: 2, least: -8192, most: 8191, operands: [3]int{kindA, kindTarget}},
	system:   {size: 1, most: 127, operands: [3]int{kindNumber}},
	exchange: {registers: 2, operands: [3]int{kindA, kindBracket}},
}

// operation is an operation of the machine: its number, its mnemonic, and its layout.
type operation struct {
	op     int
	name   string
	layout int
}

var operations = []operation{
	{api.InNop, "nop", bare},
	{api.InMove, "move", pair},
	{api.InSet, "set", wide},
	{api.InLit, "lit", narrow},
	{api.InAdd, "add", pair},
	{api.InSub, "sub", pair},
	{api.InMul, "mul", pair},
	{api.InDiv, "div", pair},
	{api.InMod, "mod", pair},
	{api.InAnd, "and", pair},
	{api.InOr, "or", pair},
	{api.InXor, "xor", pair},
	{api.InShl, "shl", pair},
	{api.InShr, "shr", pair},
	{api.InSar, "sar", pair},
	{api.InInc, "inc", narrow},
	{api.InLoad1, "load1", load},
	{api.InLoad8, "load8", load},
	{api.InStore1, "store1", store},
	{api.InStore8, "store8", store},
	{api.InBeq, "beq", branch},
	{api.InBne, "bne", branch},
	{api.InBlt, "blt", branch},
	{api.InBge, "bge", branch},
	{api.InJump, "jump", leap},
	{api.InJumpR, "jumpr", single},
	{api.InCall, "call", leap},
	{api.InCallR, "callr", single},
	{api.InRet, "ret", bare},
	{api.InPush, "push", single},
	{api.InPop, "pop", single},
	{api.InLea, "lea", place},
	{api.InSys, "sys", system},
	{api.InSwap, "swap", exchange},
	{api.InBreak, "break", bare},
}

func withOp(op int) (operation, bool) {
	for _, o := range operations {
		if o.op == op {
			return o, true
		}
	}
	return operation{}, false
}

func withName(name string) (operation, bool) {
	for _, o := range operations {
		if o.name == name {
			return o, true
		}
	}
	return operation{}, false
}

// formed returns the operation and the layout of an instruction, and whether it is well-formed.
func formed(x api.Insn) (operation, layout, bool) {
	o, ok := withOp(x.Op)
	if !ok {
		return operation{}, layout{}, false
	}
	l := layouts[o.layout]
	ok = isRegister(x.A, l.registers >= 1) && isRegister(x.B, l.registers == 2) && l.least <= x.Imm && x.Imm <= l.most
	return o, l, ok
}

// isRegister reports whether n is a register, or 0 where there is none.
func isRegister(n int, has bool) bool {
	return n == 0 || has && 0 < n && n <= 7
}

// length returns how many bytes an encoding has.
func (l layout) length() int {
	return 1 + min(l.registers, 1) + l.size
}

// allows reports whether an encoding may have the byte c at the offset i, behind the first byte. The last one of ten bytes of Imm has only one bit of the int64; its others repeat the sign.
func (l layout) allows(i int, c byte) bool {
	switch {
	case i == 1 && l.registers == 1:
		return c < 8
	case i == 1 && l.registers == 2:
		return c < 64
	case l.size == 10 && i == l.length()-1:
		return c == 0 || c == 127
	}
	return c < 128
}

// relative reports whether Imm counts from the following instruction.
func (l layout) relative() bool {
	return slices.Contains(l.operands[:], kindTarget)
}
