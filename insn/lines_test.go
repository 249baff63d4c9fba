package insn_test

import (
	"math"
	"strings"
	"testing"

	"tapline/api"
	"tapline/insn"
)

// P2.1, I4: the canonical line of each operation.
func TestPrint(t *testing.T) {
	for _, c := range []struct {
		x    api.Insn
		want string
	}{
		{api.Insn{Op: api.InNop}, "nop"}, {api.Insn{Op: api.InMove, A: 1, B: 2}, "move r1, r2"}, {api.Insn{Op: api.InSet, A: 7, Imm: math.MinInt64}, "set r7, -9223372036854775808"}, {api.Insn{Op: api.InSet, Imm: math.MaxInt64}, "set r0, 9223372036854775807"},
		{api.Insn{Op: api.InLit, A: 3}, "lit r3, 0"}, {api.Insn{Op: api.InLit, A: 3, Imm: -64}, "lit r3, -64"}, {api.Insn{Op: api.InAdd, A: 7}, "add r7, r0"}, {api.Insn{Op: api.InSub, B: 7}, "sub r0, r7"}, {api.Insn{Op: api.InMul}, "mul r0, r0"}, {api.Insn{Op: api.InDiv}, "div r0, r0"}, {api.Insn{Op: api.InMod}, "mod r0, r0"},
		{api.Insn{Op: api.InAnd}, "and r0, r0"}, {api.Insn{Op: api.InOr}, "or r0, r0"}, {api.Insn{Op: api.InXor}, "xor r0, r0"}, {api.Insn{Op: api.InShl}, "shl r0, r0"}, {api.Insn{Op: api.InShr}, "shr r0, r0"}, {api.Insn{Op: api.InSar}, "sar r0, r0"}, {api.Insn{Op: api.InInc, A: 6, Imm: 63}, "inc r6, 63"},
		{api.Insn{Op: api.InLoad1, A: 4, B: 5}, "load1 r4, [r5]"}, {api.Insn{Op: api.InLoad8, A: 1, B: 7, Imm: -8}, "load8 r1, [r7-8]"}, {api.Insn{Op: api.InStore1, A: 4, B: 2, Imm: 3}, "store1 [r2+3], r4"}, {api.Insn{Op: api.InStore8, A: 1, B: 2}, "store8 [r2], r1"},
		{api.Insn{Op: api.InBeq, A: 1, B: 2, Imm: 63}, "beq r1, r2, .+63"}, {api.Insn{Op: api.InBne, A: 2, B: 1, Imm: -64}, "bne r2, r1, .-64"}, {api.Insn{Op: api.InBlt}, "blt r0, r0, .+0"}, {api.Insn{Op: api.InBge}, "bge r0, r0, .+0"},
		{api.Insn{Op: api.InJump, Imm: 8191}, "jump .+8191"}, {api.Insn{Op: api.InJumpR, A: 5}, "jumpr r5"}, {api.Insn{Op: api.InCall, Imm: -8192}, "call .-8192"}, {api.Insn{Op: api.InCallR, A: 6}, "callr r6"}, {api.Insn{Op: api.InRet}, "ret"}, {api.Insn{Op: api.InPush, A: 1}, "push r1"}, {api.Insn{Op: api.InPop, A: 2}, "pop r2"},
		{api.Insn{Op: api.InLea, A: 1, Imm: -5}, "lea r1, .-5"}, {api.Insn{Op: api.InSys, Imm: 127}, "sys 127"}, {api.Insn{Op: api.InSwap, A: 7}, "swap r7, [r0]"}, {api.Insn{Op: api.InBreak}, "break"},
	} {
		if s, e := insn.Print(c.x); s != c.want || e != api.OK {
			t.Errorf("Print(%v) = %q, %d; want %q", c.x, s, e, c.want)
		}
	}
	for _, x := range everyInsn() {
		if s, e := insn.Print(x); s != modelPrint(x) || e != api.OK {
			t.Errorf("Print(%v) = %q, %d; want %q", x, s, e, modelPrint(x))
		}
	}
}

func parsesAs(t *testing.T, line string, x api.Insn, e api.Errno) {
	t.Helper()
	if y, f := insn.Parse(line); y != x || f != e {
		t.Errorf("Parse(%.80q) = %v, %d; want %v, %d", line, y, f, x, e)
	}
}

// P2.1, I4: lines that have an instruction.
func TestParse(t *testing.T) {
	store := api.Insn{Op: api.InStore1, A: 4, B: 2, Imm: 3}
	for _, line := range []string{"store1 [ r2 + 3 ],r4", "store1 [r2+3],r4", "\t store1\t \t[\tr2\t+\t3\t]\t,\tr4\t ", "store1 [r2 +3] ,r4", "store1 [r2+ 3], r4", "store1 [r2+0000000000000000003], r4"} {
		parsesAs(t, line, store, api.OK)
	}
	for line, x := range map[string]api.Insn{
		" nop\t":                           {Op: api.InNop},
		"swap r1,[\tr2 ]":                  {Op: api.InSwap, A: 1, B: 2},
		"load1 r1, [ r2 ]":                 {Op: api.InLoad1, A: 1, B: 2},
		"load1 r1, [r2+0]":                 {Op: api.InLoad1, A: 1, B: 2},
		"load1 r1, [r2-00]":                {Op: api.InLoad1, A: 1, B: 2},
		"load8 r1, [r2 - 064]":             {Op: api.InLoad8, A: 1, B: 2, Imm: -64},
		"load8 r1, [r2+63]":                {Op: api.InLoad8, A: 1, B: 2, Imm: 63},
		"lit r0, -0":                       {Op: api.InLit},
		"lit r0, 0000000000000000063":      {Op: api.InLit, Imm: 63},
		"lit r0, -0000000000000000064":     {Op: api.InLit, Imm: -64},
		"set r0, 9223372036854775807":      {Op: api.InSet, Imm: math.MaxInt64},
		"set r0, -9223372036854775808":     {Op: api.InSet, Imm: math.MinInt64},
		"set r0, -9223372036854775807":     {Op: api.InSet, Imm: -math.MaxInt64},
		"set r0, 0000000000000000000":      {Op: api.InSet},
		"sys 127":                          {Op: api.InSys, Imm: 127},
		"sys -0":                           {Op: api.InSys},
		"jump .+8191":                      {Op: api.InJump, Imm: 8191},
		"jump .-8192":                      {Op: api.InJump, Imm: -8192},
		"jump .-0":                         {Op: api.InJump},
		"jump .+0000000000000000007":       {Op: api.InJump, Imm: 7},
		"beq r1 ,r2\t, .-064":              {Op: api.InBeq, A: 1, B: 2, Imm: -64},
		"lea r7,.+1":                       {Op: api.InLea, A: 7, Imm: 1},
		strings.Repeat(" ", 19997) + "nop": {Op: api.InNop},
	} {
		parsesAs(t, line, x, api.OK)
	}
}

// P2.1, I4: lines that have none.
func TestParseErrors(t *testing.T) {
	for want, lines := range map[api.Errno][]string{
		api.ErrLong: {strings.Repeat(" ", 20001), strings.Repeat(" ", 19998) + "nop", strings.Repeat("x", 20001)},
		api.ErrReach: {
			"beq r1, r2, .+64", "bne r1, r2, .-65", "jump .+8192", "call .-8193", "lea r0, .+8192", "lea r0, .-8193",
			"jump .+9223372036854775807", "jump .+9223372036854775808", "jump .-9223372036854775808", "jump .-9223372036854775809", "jump .+9999999999999999999", "blt r0, r0, .-9999999999999999999",
		},
		api.ErrAsm: {
			// No such operation.
			"", " ", "\t", strings.Repeat(" ", 20000), "NOP", "Nop", "nopp", "no", "load r1, [r2]", "r1", "1nop", ".func f", "nop;", "; nop", "l: nop", "l:", "nop\n", "\nnop", "nop\r", "n op", "nop nop", "nop r0", "nop 0", "\x00nop", "nop\x00", "nop\u00a0", "\u00a0nop", "nop,",
			// Blanks where they may not stand, or none where one has to.
			"mover1, r2", "move\nr1, r2", "move r 1, r2", "jump.+5", "sys5", "jump . +5", "jump .+ 5", "jump .- 5", "lit r0, - 5", "lit r0, 5 5", "store1[r2], r1", "load1 r1, [r 2]", "load1 r1, [r2+3 3]", "move, r1, r2",
			// Operands that are missing, too many, or not of the kind.
			"move", "move ", "move r1", "move r1,", "move r1, ", "move r1 r2", "move r1,, r2", "move ,r1, r2", "move r1, r2,", "move r1, r2, r3", "move r1, r2 r3", "move r1, 2", "move r1, [r2]", "push", "push 1", "push [r1]", "push r1, r2", "ret r7", "break 0", "swap r1, r2", "swap [r2], r1", "swap r1, [r2+0]", "swap r1, [r2-1]", "swap r1, []",
			"load1 [r2], r1", "store1 r1, [r2]", "load1 r1, r2", "load1 r1, [r2", "load1 r1, r2]", "load1 r1, []", "load1 r1, [3]", "load1 r1, [r2 3]", "load1 r1, [r2+]", "load1 r1, [r2-]", "load1 r1, [r2+-3]", "load1 r1, [r2--3]", "load1 r1, [3+r2]", "load1 r1, [+3]", "load1 r1, [[r2]]", "load1 r1, [r2]]", "load1 r1, [r2+r3]", "lit r0", "lit r0, r1", "lit r0, .+1", "sys", "sys r1", "sys .+1", "jump", "jump 5", "jump r5", "jump +5", "jump .5", "jump .", "jump .+", "jump .-", "jump .+-5", "jump .--5", "jump .+5.", "lea r1", "lea .+5", "beq r1, r2", "beq r1, .+5", "beq r1, r2, 5",
			// Registers that are none.
			"move r8, r1", "move r1, r8", "move r9, r9", "move r-1, r1", "move r, r1", "move R1, r2", "move r10, r1", "move r01, r1", "move r1r2", "move 1, 2", "move x1, r2", "load1 r1, [r8]", "swap r1, [r8]", "lit r8, 0", "pop r8", "store1 [r8], r1", "lea r8, .+99999", "beq r8, r1, .+99999",
			// Numbers and addresses that are none, or do not fit.
			"lit r0, 64", "lit r0, -65", "inc r0, 64", "inc r0, -65", "sys 128", "sys -1", "load1 r1, [r2+64]", "load8 r1, [r2-65]", "store1 [r2+64], r1", "store8 [r2 - 65], r1", "lit r0, +5", "lit r0, --5", "lit r0, -", "lit r0, 0x5", "lit r0, 5a", "lit r0, 1_0", "lit r0, 1e1", "lit r0, \u0661",
			"set r0, 9223372036854775808", "set r0, -9223372036854775809", "set r0, 9999999999999999999", "set r0, -9999999999999999999", "set r0, 00000000000000000000", "set r0, 00000000000000000001", "set r0, -00000000000000000001", "set r0, 10000000000000000000",
			"lit r0, 9223372036854775808", "load1 r1, [r2+9223372036854775808]", "load1 r1, [r2-9999999999999999999]", "load1 r1, [r2+00000000000000000000]", "jump .+00000000000000000000", "jump .-00000000000000000001", "jump .+10000000000000000000",
			// Labels, and targets out of reach of lines that are none.
			"jump l", "jump l+1", "beq r1, r2, l", "lea r1, l", "call f", "jump .+9000 x", "jump .+9000,", "beq r1, r2, .+64]",
		},
	} {
		for _, line := range lines {
			parsesAs(t, line, api.Insn{}, want)
		}
	}
	for _, r := range rows {
		x := api.Insn{Op: r.op, Imm: 1}
		parsesAs(t, strings.ToUpper(r.name)+strings.TrimPrefix(modelPrint(x), r.name), api.Insn{}, api.ErrAsm)
	}
}

// P2.1, I4: lines of every form, and lines in which a byte is wrong.
func TestParseByTheModel(t *testing.T) {
	m := newMaker()
	for range 40000 {
		x := m.insn()
		line := m.line(x, "")
		parsesAs(t, line, x, api.OK)
		if m.Intn(2) == 0 && rowOf(x.Op).relative() {
			line = m.line(x, "label")
		}
		for range 1 + m.Intn(2) {
			line = m.spoil(line)
		}
		y, e := modelParse(line)
		parsesAs(t, line, y, e)
	}
}
