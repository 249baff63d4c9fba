package cpu_test

import (
	"math"
	"slices"
	"testing"

	"tapline/api"
	"tapline/cpu"
)

const (
	least = math.MinInt64
	most  = math.MaxInt64
)

// behind is an instruction, the registers ahead of it and behind it, and what it stores.
type behind struct {
	line       string
	ahead, reg api.Regs
	at         int64
	data       []byte
}

func (c behind) check(t *testing.T) {
	t.Helper()
	want := api.Effect{Regs: c.reg, At: c.at, Data: c.data, Insn: parse(t, c.line)}
	if got := effect(t, want.Insn, sample(), c.ahead); !equal(got, want) {
		t.Errorf("%s with %v: %v; want %v", c.line, c.ahead, got, want)
	}
}

// P4.1: the rows that move values.
func TestMoves(t *testing.T) {
	for _, c := range []behind{
		{line: "nop", ahead: regs(5, 0, 1, 7, 9), reg: regs(6, 0, 1, 7, 9)},
		{line: "nop", ahead: regs(most), reg: regs(least)},
		{line: "nop", ahead: regs(-1), reg: regs(0)},
		{line: "move r1, r2", ahead: regs(0, 1, 5, 2, -7), reg: regs(2, 1, -7, 2, -7)},
		{line: "move r3, r3", ahead: regs(0, 3, 5), reg: regs(2, 3, 5)},
		{line: "move r7, r1", ahead: regs(0, 1, 5, 7, 6), reg: regs(2, 1, 5, 7, 5)},
		{line: "move r0, r7", ahead: regs(most, 0, 5, 7, 6), reg: regs(least+1, 0, 6, 7, 6)},
		{line: "set r1, -9223372036854775808", ahead: regs(1, 1, 8), reg: regs(13, 1, least)},
		{line: "set r7, 9223372036854775807", ahead: regs(1), reg: regs(13, 7, most)},
		{line: "lit r0, -64", ahead: regs(1, 0, 8), reg: regs(4, 0, -64)},
		{line: "lit r7, 63", ahead: regs(1, 7, 8), reg: regs(4, 7, 63)},
		{line: "inc r4, 63", ahead: regs(1, 4, 8), reg: regs(4, 4, 71)},
		{line: "inc r7, -64", ahead: regs(1, 7, 8), reg: regs(4, 7, -56)},
		{line: "inc r4, 1", ahead: regs(1, 4, most), reg: regs(4, 4, least)},
		{line: "inc r4, -1", ahead: regs(1, 4, least), reg: regs(4, 4, most)},
		{line: "lea r2, .+8191", ahead: regs(10, 2, 1), reg: regs(14, 2, 8205)},
		{line: "lea r2, .-8192", ahead: regs(10), reg: regs(14, 2, -8178)},
		{line: "lea r7, .+0", ahead: regs(10), reg: regs(14, 7, 14)},
		{line: "lea r1, .+1", ahead: regs(most - 4), reg: regs(most, 1, least)},
		{line: "lea r1, .-1", ahead: regs(most - 3), reg: regs(least, 1, most)},
	} {
		c.check(t)
	}
}

// computed are results of Alu, and of the instructions.
var computed = []struct {
	name       string
	op         int
	a, b, want int64
}{
	{"add", api.InAdd, 5, -7, -2}, {"add", api.InAdd, most, 1, least}, {"add", api.InAdd, least, -1, most}, {"add", api.InAdd, least, least, 0},
	{"sub", api.InSub, 5, 7, -2}, {"sub", api.InSub, least, 1, most}, {"sub", api.InSub, most, -1, least}, {"sub", api.InSub, 0, least, least},
	{"mul", api.InMul, -3, 5, -15}, {"mul", api.InMul, least, -1, least}, {"mul", api.InMul, 1 << 62, 4, 0}, {"mul", api.InMul, 1 << 62, 2, least}, {"mul", api.InMul, most, most, 1},
	{"div", api.InDiv, -7, 2, -3}, {"div", api.InDiv, 7, -2, -3}, {"div", api.InDiv, 7, 2, 3}, {"div", api.InDiv, -7, -2, 3}, {"div", api.InDiv, least, -1, least}, {"div", api.InDiv, least, 1, least}, {"div", api.InDiv, least, least, 1}, {"div", api.InDiv, most, -1, -most}, {"div", api.InDiv, 0, 5, 0}, {"div", api.InDiv, 1, most, 0},
	{"mod", api.InMod, -7, 2, -1}, {"mod", api.InMod, 7, -2, 1}, {"mod", api.InMod, 7, 2, 1}, {"mod", api.InMod, -7, -2, -1}, {"mod", api.InMod, least, -1, 0}, {"mod", api.InMod, least, 10, -8}, {"mod", api.InMod, 5, least, 5}, {"mod", api.InMod, 0, -3, 0},
	{"and", api.InAnd, 12, 10, 8}, {"and", api.InAnd, -1, 77, 77}, {"and", api.InAnd, -4, -6, -8},
	{"or", api.InOr, 12, 10, 14}, {"or", api.InOr, least, 1, least + 1}, {"or", api.InOr, 0, 0, 0},
	{"xor", api.InXor, 12, 10, 6}, {"xor", api.InXor, -1, 0, -1}, {"xor", api.InXor, -1, most, least},
	{"shl", api.InShl, 5, 0, 5}, {"shl", api.InShl, 5, 1, 10}, {"shl", api.InShl, 5, 63, least}, {"shl", api.InShl, 5, 64, 5}, {"shl", api.InShl, 5, 65, 10}, {"shl", api.InShl, 5, -1, least}, {"shl", api.InShl, 5, -63, 10}, {"shl", api.InShl, 5, -64, 5}, {"shl", api.InShl, 5, least, 5}, {"shl", api.InShl, 5, most, least}, {"shl", api.InShl, -1, 4, -16},
	{"shr", api.InShr, -8, 0, -8}, {"shr", api.InShr, -8, 1, most - 3}, {"shr", api.InShr, -8, 63, 1}, {"shr", api.InShr, -8, 64, -8}, {"shr", api.InShr, -1, 65, most}, {"shr", api.InShr, -8, -1, 1}, {"shr", api.InShr, -8, -62, 1<<62 - 2}, {"shr", api.InShr, -8, -64, -8}, {"shr", api.InShr, -8, least, -8}, {"shr", api.InShr, 40, 3, 5},
	{"sar", api.InSar, -8, 0, -8}, {"sar", api.InSar, -8, 1, -4}, {"sar", api.InSar, -8, 63, -1}, {"sar", api.InSar, -8, 64, -8}, {"sar", api.InSar, -8, 66, -2}, {"sar", api.InSar, -8, -1, -1}, {"sar", api.InSar, -9, -63, -5}, {"sar", api.InSar, -8, -64, -8}, {"sar", api.InSar, least, 62, -2}, {"sar", api.InSar, 40, 3, 5}, {"sar", api.InSar, most, 63, 0},
}

// P4.1: the rows of arithmetic, with different registers, and with register 7 as A and as B.
func TestArithmetic(t *testing.T) {
	for _, c := range computed {
		for _, pair := range [][2]int64{{1, 2}, {7, 0}, {3, 7}} {
			line := c.name + " r" + string(rune('0'+pair[0])) + ", r" + string(rune('0'+pair[1]))
			behind{line: line, ahead: regs(9, pair[0], c.a, pair[1], c.b, 6, 66), reg: regs(11, pair[0], c.want, pair[1], c.b, 6, 66)}.check(t)
		}
		if v, ok, e := cpu.Alu(c.op, c.a, c.b); v != c.want || !ok || e != api.OK {
			t.Errorf("Alu(%s, %d, %d) = %d, %v, %d; want %d", c.name, c.a, c.b, v, ok, e, c.want)
		}
	}
	for _, c := range []struct {
		name        string
		value, want int64
	}{
		{"add", 5, 10}, {"sub", 5, 0}, {"mul", -5, 25}, {"div", least, 1}, {"div", -7, 1}, {"mod", -7, 0}, {"and", -7, -7}, {"or", -7, -7}, {"xor", -7, 0}, {"shl", 3, 24}, {"shl", -1, least}, {"shr", -1, 1}, {"shr", 65, 32}, {"sar", -3, -1},
	} {
		behind{line: c.name + " r5, r5", ahead: regs(9, 5, c.value), reg: regs(11, 5, c.want)}.check(t)
		behind{line: c.name + " r7, r7", ahead: regs(9, 7, c.value), reg: regs(11, 7, c.want)}.check(t)
	}
}

// P4.1: the rows of loads and stores, up to the edges of pages and from one into the next.
func TestLoadsAndStores(t *testing.T) {
	for _, c := range []behind{
		{line: "load1 r1, [r2]", ahead: regs(0, 1, -1, 2, 100), reg: regs(3, 1, 100, 2, 100)},
		{line: "load1 r1, [r2+63]", ahead: regs(0, 2, 192), reg: regs(3, 1, 255, 2, 192)},
		{line: "load1 r1, [r2-64]", ahead: regs(0, 1, most, 2, 128), reg: regs(3, 1, 64, 2, 128)},
		{line: "load1 r2, [r2-1]", ahead: regs(0, 2, 384), reg: regs(3, 2, 127)},
		{line: "load1 r7, [r7]", ahead: regs(0, 7, 130), reg: regs(3, 7, 130)},
		{line: "load8 r1, [r2]", ahead: regs(0, 2, 100), reg: regs(3, 1, 0x6b6a696867666564, 2, 100)},
		{line: "load8 r1, [r2+4]", ahead: regs(0, 2, 120), reg: regs(3, 1, -0x7c7d7e7f80818284, 2, 120)},
		{line: "load8 r1, [r2-2]", ahead: regs(0, 2, 190), reg: regs(3, 1, -0x3c3d3e3f40414244, 2, 190)},
		{line: "load8 r2, [r2+56]", ahead: regs(0, 2, 320), reg: regs(3, 2, 0x7f7e7d7c7b7a7978)},
		{line: "load8 r7, [r7+8]", ahead: regs(0, 7, 56), reg: regs(3, 7, 0x4746454443424140)},
		{line: "load8 r0, [r2+63]", ahead: regs(0, 2, 2), reg: regs(3, 0, 0x4847464544434241, 2, 2)},
		{line: "store1 [r2], r1", ahead: regs(0, 1, 0x1234567890abcdef, 2, 100), reg: regs(3, 1, 0x1234567890abcdef, 2, 100), at: 100, data: []byte{0xef}},
		{line: "store1 [r2+1], r1", ahead: regs(0, 1, -2, 2, 190), reg: regs(3, 1, -2, 2, 190), at: 191, data: []byte{254}},
		{line: "store1 [r7-1], r7", ahead: regs(0, 7, 384), reg: regs(3, 7, 384), at: 383, data: []byte{128}},
		{line: "store1 [r2], r1", ahead: regs(0, 1, 256, 2, 64), reg: regs(3, 1, 256, 2, 64), at: 64, data: []byte{0}},
		{line: "store8 [r2], r1", ahead: regs(0, 1, 0x1234567890abcdef, 2, 64), reg: regs(3, 1, 0x1234567890abcdef, 2, 64), at: 64, data: []byte{0xef, 0xcd, 0xab, 0x90, 0x78, 0x56, 0x34, 0x12}},
		{line: "store8 [r2-3], r1", ahead: regs(0, 1, -2, 2, 128), reg: regs(3, 1, -2, 2, 128), at: 125, data: []byte{254, 255, 255, 255, 255, 255, 255, 255}},
		{line: "store8 [r2], r2", ahead: regs(0, 2, 184), reg: regs(3, 2, 184), at: 184, data: word(184)},
		{line: "store8 [r7-64], r7", ahead: regs(0, 7, 440), reg: regs(3, 7, 440), at: 376, data: word(440)},
		{line: "store8 [r1+2], r7", ahead: regs(0, 1, 70, 7, least), reg: regs(3, 1, 70, 7, least), at: 72, data: []byte{0, 0, 0, 0, 0, 0, 0, 128}},
		{line: "swap r1, [r2]", ahead: regs(0, 1, -3, 2, 100), reg: regs(2, 1, 0x6b6a696867666564, 2, 100), at: 100, data: word(-3)},
		{line: "swap r1, [r2]", ahead: regs(0, 1, 9, 2, 184), reg: regs(2, 1, -0x4041424344454648, 2, 184), at: 184, data: word(9)},
		{line: "swap r1, [r2]", ahead: regs(0, 1, 9, 2, 124), reg: regs(2, 1, -0x7c7d7e7f80818284, 2, 124), at: 124, data: word(9)},
		{line: "swap r5, [r5]", ahead: regs(0, 5, 64), reg: regs(2, 5, 0x4746454443424140), at: 64, data: word(64)},
		{line: "swap r7, [r7]", ahead: regs(0, 7, 376), reg: regs(2, 7, 0x7f7e7d7c7b7a7978), at: 376, data: word(376)},
		{line: "swap r7, [r1]", ahead: regs(0, 1, 376, 7, 1), reg: regs(2, 1, 376, 7, 0x7f7e7d7c7b7a7978), at: 376, data: word(1)},
	} {
		c.check(t)
	}
}

// P4.1: the rows of branches and jumps.
func TestJumps(t *testing.T) {
	for _, c := range []struct {
		op    string
		a, b  int64
		taken bool
	}{
		{"beq", 4, 4, true}, {"beq", 4, 5, false}, {"beq", -1, 1, false}, {"beq", least, least, true}, {"bne", 4, 4, false}, {"bne", 4, 5, true}, {"bne", 5, 4, true}, {"bne", least, 0, true},
		{"blt", 4, 5, true}, {"blt", 5, 4, false}, {"blt", 4, 4, false}, {"blt", -1, 0, true}, {"blt", 0, -1, false}, {"blt", least, most, true}, {"blt", most, least, false},
		{"bge", 4, 5, false}, {"bge", 5, 4, true}, {"bge", 4, 4, true}, {"bge", -1, 0, false}, {"bge", 0, -1, true}, {"bge", least, most, false}, {"bge", most, least, true},
	} {
		for _, by := range []struct {
			target   string
			imm      int64
			at, next int64
		}{{".+10", 10, 7, 10}, {".-3", -3, 7, 10}, {".-64", -64, 0, 3}, {".+63", 63, most - 10, most - 7}, {".+0", 0, -3, 0}, {".-1", -1, most - 2, least}} {
			to := by.next
			if c.taken {
				to += by.imm
			}
			behind{line: c.op + " r1, r2, " + by.target, ahead: regs(by.at, 1, c.a, 2, c.b), reg: regs(to, 1, c.a, 2, c.b)}.check(t)
			behind{line: c.op + " r7, r0, " + by.target, ahead: regs(by.at, 7, c.a, 0, c.b), reg: regs(to, 7, c.a, 0, c.b)}.check(t)
		}
	}
	for _, c := range []behind{
		{line: "beq r3, r3, .+5", ahead: regs(0, 3, 9), reg: regs(8, 3, 9)}, {line: "bne r3, r3, .+5", ahead: regs(0, 3, 9), reg: regs(3, 3, 9)},
		{line: "blt r3, r3, .+5", ahead: regs(0, 3, 9), reg: regs(3, 3, 9)}, {line: "bge r7, r7, .+5", ahead: regs(0, 7, 9), reg: regs(8, 7, 9)},
		{line: "jump .-3", ahead: regs(10), reg: regs(10)}, {line: "jump .+8191", ahead: regs(10, 1, 5), reg: regs(8204, 1, 5)}, {line: "jump .-8192", ahead: regs(10), reg: regs(-8179)}, {line: "jump .+0", ahead: regs(most), reg: regs(least + 2)}, {line: "jump .+1", ahead: regs(most - 3), reg: regs(least)},
		{line: "jumpr r1", ahead: regs(10, 1, 77), reg: regs(77, 1, 77)}, {line: "jumpr r7", ahead: regs(10, 7, least), reg: regs(least, 7, least)}, {line: "jumpr r0", ahead: regs(10), reg: regs(0)},
	} {
		c.check(t)
	}
}

// P4.1: the rows of the stack, up to the edges of pages and from one into the next.
func TestStack(t *testing.T) {
	for _, c := range []behind{
		{line: "call .+20", ahead: regs(10, 7, 100), reg: regs(33, 7, 92), at: 92, data: word(13)},
		{line: "call .-3", ahead: regs(10, 7, 72), reg: regs(10, 7, 64), at: 64, data: word(13)},
		{line: "call .+8191", ahead: regs(most, 7, 192), reg: regs(least+8193, 7, 184), at: 184, data: word(least + 2)},
		{line: "call .-8192", ahead: regs(0, 7, 132), reg: regs(-8189, 7, 124), at: 124, data: word(3)},
		{line: "callr r1", ahead: regs(10, 1, 77, 7, 384), reg: regs(77, 1, 77, 7, 376), at: 376, data: word(12)},
		{line: "callr r7", ahead: regs(10, 7, 100), reg: regs(100, 7, 92), at: 92, data: word(12)},
		{line: "callr r0", ahead: regs(-2, 7, 100), reg: regs(0, 7, 92), at: 92, data: word(0)},
		{line: "ret", ahead: regs(10, 7, 100), reg: regs(0x6b6a696867666564, 7, 108)},
		{line: "ret", ahead: regs(10, 1, 3, 7, 248), reg: regs(-0x0001020304050608, 1, 3, 7, 256)},
		{line: "ret", ahead: regs(10, 7, 376), reg: regs(0x7f7e7d7c7b7a7978, 7, 384)},
		{line: "ret", ahead: regs(10, 7, 124), reg: regs(-0x7c7d7e7f80818284, 7, 132)},
		{line: "push r1", ahead: regs(10, 1, -2, 7, 100), reg: regs(12, 1, -2, 7, 92), at: 92, data: word(-2)},
		{line: "push r1", ahead: regs(10, 1, 5, 7, 72), reg: regs(12, 1, 5, 7, 64), at: 64, data: word(5)},
		{line: "push r1", ahead: regs(10, 1, 5, 7, 130), reg: regs(12, 1, 5, 7, 122), at: 122, data: word(5)},
		{line: "push r1", ahead: regs(10, 1, 5, 7, 384), reg: regs(12, 1, 5, 7, 376), at: 376, data: word(5)},
		{line: "push r7", ahead: regs(10, 7, 100), reg: regs(12, 7, 92), at: 92, data: word(100)},
		{line: "pop r1", ahead: regs(10, 1, 5, 7, 100), reg: regs(12, 1, 0x6b6a696867666564, 7, 108)},
		{line: "pop r1", ahead: regs(10, 7, 64), reg: regs(12, 1, 0x4746454443424140, 7, 72)},
		{line: "pop r1", ahead: regs(10, 7, 190), reg: regs(12, 1, -0x3a3b3c3d3e3f4042, 7, 198)},
		{line: "pop r0", ahead: regs(10, 7, 376), reg: regs(12, 0, 0x7f7e7d7c7b7a7978, 7, 384)},
		{line: "pop r7", ahead: regs(10, 7, 100), reg: regs(12, 7, 0x6b6a696867666564)},
	} {
		c.check(t)
	}
}

// trapAt is an instruction that traps.
type trapAt struct {
	line  string
	ahead api.Regs
	want  api.Trap
}

func fault(kind int, at int64) api.Trap {
	return api.Trap{Kind: api.TrFault, Fault: api.Fault{Kind: kind, At: at}}
}

// P4.1, P4.2: all traps but TrSys leave the registers, and nothing is stored.
func TestTraps(t *testing.T) {
	for _, c := range []trapAt{
		{"break", regs(5, 1, 4, 7, 8), api.Trap{Kind: api.TrBreak}}, {"break", regs(most), api.Trap{Kind: api.TrBreak}},
		{"div r1, r2", regs(5, 1, 4), api.Trap{Kind: api.TrDivide}}, {"div r1, r1", regs(5, 2, 4), api.Trap{Kind: api.TrDivide}}, {"div r1, r2", regs(5, 1, least), api.Trap{Kind: api.TrDivide}},
		{"mod r1, r2", regs(5, 1, 4), api.Trap{Kind: api.TrDivide}}, {"mod r7, r7", regs(5, 2, 4), api.Trap{Kind: api.TrDivide}}, {"mod r1, r7", regs(5, 1, least), api.Trap{Kind: api.TrDivide}},
		{"load1 r1, [r2]", regs(5, 1, 4, 2, 63), fault(api.FtRead, 63)}, {"load1 r1, [r2]", regs(5, 2, 256), fault(api.FtRead, 256)}, {"load1 r1, [r2-1]", regs(5, 2, 0), fault(api.FtMap, -1)}, {"load1 r1, [r2+1]", regs(5, 2, 383), fault(api.FtMap, 384)},
		{"load1 r1, [r2+1]", regs(5, 2, most), fault(api.FtMap, least)}, {"load1 r1, [r2-1]", regs(5, 2, least), fault(api.FtMap, most)},
		{"load8 r1, [r2]", regs(5, 1, 4, 2, 60), fault(api.FtRead, 60)}, {"load8 r1, [r2-1]", regs(5, 2, 250), fault(api.FtRead, 256)}, {"load8 r1, [r2]", regs(5, 2, 319), fault(api.FtRead, 319)}, {"load8 r1, [r2+1]", regs(5, 2, 376), fault(api.FtMap, 384)}, {"load8 r1, [r2]", regs(5, 2, -7), fault(api.FtMap, -7)},
		{"load8 r1, [r2+63]", regs(5, 2, most-60), fault(api.FtMap, least+2)}, {"load8 r7, [r7]", regs(5, 7, most-3), fault(api.FtMap, most-3)},
		{"store1 [r2], r1", regs(5, 1, 4, 2, 63), fault(api.FtWrite, 63)}, {"store1 [r2], r1", regs(5, 2, 192), fault(api.FtWrite, 192)}, {"store1 [r2], r1", regs(5, 2, 256), fault(api.FtWrite, 256)}, {"store1 [r2], r1", regs(5, 2, 384), fault(api.FtMap, 384)}, {"store1 [r2-64], r1", regs(5, 2, least), fault(api.FtMap, most-63)},
		{"store8 [r2], r1", regs(5, 1, 4, 2, 57), fault(api.FtWrite, 57)}, {"store8 [r2], r1", regs(5, 2, 185), fault(api.FtWrite, 192)}, {"store8 [r2], r1", regs(5, 2, 255), fault(api.FtWrite, 255)}, {"store8 [r2], r1", regs(5, 2, 313), fault(api.FtWrite, 313)}, {"store8 [r2], r1", regs(5, 2, 377), fault(api.FtMap, 384)}, {"store8 [r2], r2", regs(5, 2, -1), fault(api.FtMap, -1)},
		{"swap r1, [r2]", regs(5, 1, 4, 2, 0), fault(api.FtRead, 0)}, {"swap r1, [r2]", regs(5, 2, 192), fault(api.FtWrite, 192)}, {"swap r1, [r2]", regs(5, 2, 188), fault(api.FtWrite, 192)}, {"swap r1, [r2]", regs(5, 2, 252), fault(api.FtRead, 256)}, {"swap r1, [r2]", regs(5, 2, 60), fault(api.FtRead, 60)}, {"swap r1, [r2]", regs(5, 2, 380), fault(api.FtMap, 384)}, {"swap r7, [r7]", regs(5, 7, least), fault(api.FtMap, least)},
		{"push r1", regs(5, 1, 4, 7, 71), fault(api.FtWrite, 63)}, {"push r1", regs(5, 7, 64), fault(api.FtWrite, 56)}, {"push r1", regs(5, 7, 193), fault(api.FtWrite, 192)}, {"push r7", regs(5, 7, 385), fault(api.FtMap, 384)}, {"push r1", regs(5, 7, 0), fault(api.FtMap, -8)}, {"push r1", regs(5, 7, least), fault(api.FtMap, most-7)}, {"push r1", regs(5, 7, 300), fault(api.FtWrite, 292)},
		{"call .+9", regs(5, 1, 4, 7, 71), fault(api.FtWrite, 63)}, {"call .+9", regs(5, 7, 193), fault(api.FtWrite, 192)}, {"call .-9", regs(5, 7, 385), fault(api.FtMap, 384)}, {"call .+0", regs(5, 7, least+7), fault(api.FtMap, most)},
		{"callr r1", regs(5, 1, 4, 7, 71), fault(api.FtWrite, 63)}, {"callr r1", regs(5, 7, 193), fault(api.FtWrite, 192)}, {"callr r7", regs(5, 7, 385), fault(api.FtMap, 384)},
		{"pop r1", regs(5, 1, 4, 7, 63), fault(api.FtRead, 63)}, {"pop r1", regs(5, 7, 249), fault(api.FtRead, 256)}, {"pop r7", regs(5, 7, 377), fault(api.FtMap, 384)}, {"pop r1", regs(5, 7, -8), fault(api.FtMap, -8)}, {"pop r1", regs(5, 7, most), fault(api.FtMap, most)},
		{"ret", regs(5, 1, 4, 7, 63), fault(api.FtRead, 63)}, {"ret", regs(5, 7, 249), fault(api.FtRead, 256)}, {"ret", regs(5, 7, 377), fault(api.FtMap, 384)}, {"ret", regs(5, 7, least), fault(api.FtMap, least)},
	} {
		want := api.Effect{Regs: c.ahead, Trap: c.want, Insn: parse(t, c.line)}
		if got := effect(t, want.Insn, sample(), c.ahead); !equal(got, want) {
			t.Errorf("%s with %v: %v; want %v", c.line, c.ahead, got, want)
		}
	}
}

// P4.1, P4.2: with TrSys Pc is next.
func TestSystemCalls(t *testing.T) {
	for _, c := range []struct {
		n        int64
		at, next int64
	}{{0, 4, 6}, {3, 4, 6}, {127, -2, 0}, {64, most, least + 1}} {
		x := api.Insn{Op: api.InSys, Imm: c.n}
		ahead := regs(c.at, 0, 1, 7, 9)
		want := api.Effect{Regs: regs(c.next, 0, 1, 7, 9), Trap: api.Trap{Kind: api.TrSys, N: int(c.n)}, Insn: x}
		if got := effect(t, x, sample(), ahead); !equal(got, want) {
			t.Errorf("sys %d at %d: %v; want %v", c.n, c.at, got, want)
		}
	}
}

// P4.1: a read ahead of a write has the fault, wherever the write would have one.
func TestFaultOfTheReadAheadOfTheWrite(t *testing.T) {
	x := parse(t, "swap r1, [r2]")
	for _, c := range []struct {
		first, second int
		want          api.Trap
	}{
		{read, none, fault(api.FtRead, 64)}, {read, exec, fault(api.FtRead, 64)}, {read, read, fault(api.FtWrite, 60)}, {read, both, fault(api.FtWrite, 60)}, {both, read, fault(api.FtWrite, 64)}, {both, none, fault(api.FtRead, 64)},
		{both, exec, fault(api.FtRead, 64)}, {none, both, fault(api.FtRead, 60)}, {exec, both, fault(api.FtRead, 60)}, {both, both, api.Trap{}},
	} {
		got := effect(t, x, codeAt([]int{c.first, c.second}, 0), regs(0, 1, 5, 2, 60))
		if got.Trap != c.want {
			t.Errorf("swap over pages with %d and %d: %v; want %v", c.first, c.second, got.Trap, c.want)
		}
	}
	if got := effect(t, x, codeAt([]int{read}, 0), regs(0, 2, 60)); got.Trap != fault(api.FtMap, 64) {
		t.Errorf("swap at the end of a page that can only be read: %v", got.Trap)
	}
}

// P4.1: each operation with all registers, against the model.
func TestEffects(t *testing.T) {
	m := newMaker()
	for _, row := range rows {
		for a := range 8 {
			for b := range 8 {
				for range 12 {
					x, s := m.instruction(row), m.space()
					if slices.Contains([]byte(row.operands), 'A') {
						x.A = a
					}
					if slices.Contains([]byte(row.operands), 'B') {
						x.B = b
					}
					r := m.regs(s)
					if got, want := effect(t, x, s, r), modelExec(x, s, r); !equal(got, want) {
						t.Errorf("Exec(%v, %v, %v) = %v; want %v", x, s.Perm, r, got, want)
					}
				}
			}
		}
	}
}

// P4.1: in a space without pages, and in the largest one.
func TestEffectsInTheSmallestAndTheLargestSpace(t *testing.T) {
	if got := effect(t, parse(t, "add r1, r2"), api.Space{}, regs(0, 1, 2, 2, 3)); got.Regs != regs(2, 1, 5, 2, 3) {
		t.Errorf("add without memory: %v", got)
	}
	if got := effect(t, parse(t, "pop r1"), api.Space{}, regs(0)); got.Trap != fault(api.FtMap, 0) {
		t.Errorf("pop without memory: %v", got)
	}
	full := codeAt(slices.Repeat([]int{both}, 32), 2040, 1, 2, 3, 4, 5, 6, 7, 8)
	if got := effect(t, parse(t, "pop r1"), full, regs(0, 7, 2040)); got.Regs != regs(2, 1, 0x0807060504030201, 7, 2048) {
		t.Errorf("pop of the last bytes: %v", got)
	}
	if got := effect(t, parse(t, "pop r1"), full, regs(0, 7, 2041)); got.Trap != fault(api.FtMap, 2048) {
		t.Errorf("pop beyond the last bytes: %v", got)
	}
}

// P4.1: Exec takes the instruction that is given, whatever stands at Pc.
func TestExecIgnoresTheCode(t *testing.T) {
	m := newMaker()
	for range 200 {
		s, other := m.space(), m.space()
		x := m.instruction(rows[m.Intn(16)]) // no access to memory
		r := m.regs(s)
		if a, b := effect(t, x, s, r), effect(t, x, other, r); !equal(a, b) {
			t.Errorf("Exec(%v, %v): %v with other memory: %v", x, r, a, b)
		}
	}
}
