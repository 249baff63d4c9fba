package patch_test

import (
	"fmt"
	"math"
	"strings"
	"testing"

	"tapline/api"
	"tapline/insn"
	"tapline/patch"
)

var modeNames = []string{api.PtNone: "none", api.PtCopy: "copy", api.PtFix: "fix", api.PtEmulate: "emulate"}

// displace expects the line and the mode of a displaced instruction.
func displace(t *testing.T, line string, from, to int64, want string, mode int) {
	t.Helper()
	g := given{Insn: parse(line), At: from, Slot: to}
	others()[1].compare(t, g)
	x, how, e := patch.Displace(g.Insn, from, to)
	if got, _ := insn.Print(x); got != want || how != mode || e != api.OK {
		t.Errorf("Displace of %s from %d to %d = %s, %d, %d; want %s, %s", line, from, to, got, how, e, want, modeNames[mode])
	}
}

// places are addresses from which and to which instructions are displaced.
var places = []int64{0, 3, 100, 101, 8300, 1 << 40, -1, -8192, math.MaxInt64, math.MaxInt64 - 1, math.MinInt64, math.MinInt64 + 1}

// P7.1: instructions without a relative operand are copied as they are, and those that use the address of the following instruction are emulated, whatever the addresses are.
func TestDisplaceOthers(t *testing.T) {
	for _, c := range []struct {
		mode  int
		lines string
	}{
		{api.PtCopy, "nop; move r1, r2; set r3, -9223372036854775808; lit r1, -64; add r1, r2; sub r1, r2; mul r1, r2; div r1, r2; mod r1, r2; and r1, r2; or r1, r2; xor r1, r2; shl r1, r2; shr r1, r2; sar r1, r2; inc r7, 63; load1 r1, [r2-64]; load8 r7, [r0]; store1 [r2+63], r1; store8 [r7], r0; jumpr r5; ret; push r7; pop r7; swap r1, [r2]"},
		{api.PtEmulate, "call .+10; call .+0; call .-8192; call .+8191; callr r0; callr r7; sys 0; sys 127; break"},
	} {
		for line := range strings.SplitSeq(c.lines, "; ") {
			for _, at := range places {
				for _, to := range places {
					displace(t, line, at, to, line, c.mode)
				}
			}
		}
	}
}

// P7.1: each target at and beyond the range of its operand, and the target that is the following instruction, also where addresses wrap around.
func TestDisplaceTargets(t *testing.T) {
	for _, row := range []struct {
		line  string // without the operand, which is 5
		reach int64
		zero  int // the mode if the operand becomes 0
	}{
		{"beq r1, r2, ", 63, api.PtEmulate}, {"bne r7, r0, ", 63, api.PtEmulate}, {"blt r3, r3, ", 63, api.PtEmulate}, {"bge r0, r7, ", 63, api.PtEmulate},
		{"jump ", 8191, api.PtEmulate}, {"lea r6, ", 8191, api.PtFix},
	} {
		for _, at := range places {
			for _, imm := range []int64{0, 1, -1, 2, 5, 6, 62, 63, 64, 65, -63, -64, -65, -66, row.reach - 1, row.reach, row.reach + 1, row.reach + 2, 1 - row.reach, -row.reach, -1 - row.reach, -2 - row.reach, 3 * row.reach, 1 << 32, 1 << 40, 1<<32 + 1, math.MaxInt64, math.MinInt64, math.MinInt64 + 5} {
				to := at + 5 - imm
				want, mode := row.line+target(imm), api.PtFix
				if imm == 0 {
					mode = row.zero
				}
				if imm > row.reach || imm < -1-row.reach {
					mode = api.PtEmulate
				}
				if mode == api.PtEmulate {
					want = row.line + ".+5"
				}
				displace(t, row.line+".+5", at, to, want, mode)
			}
		}
	}
}

// target returns a relative operand as it is written.
func target(imm int64) string {
	if imm < 0 {
		return "." + fmt.Sprint(imm)
	}
	return fmt.Sprint(".+", imm)
}

// P7.1: displaced instructions, written out.
func TestDisplaceExamples(t *testing.T) {
	for _, c := range []struct {
		line     string
		from, to int64
		want     string
		mode     int
	}{
		{"jump .-6", 3, 100, "jump .-103", api.PtFix}, {"beq r0, r1, .+5", 0, 5, "beq r0, r1, .+5", api.PtEmulate}, {"beq r0, r1, .+5", 0, 100, "beq r0, r1, .+5", api.PtEmulate},
		{"call .+10", 6, 100, "call .+10", api.PtEmulate}, {"move r1, r2", 6, 100, "move r1, r2", api.PtCopy},
		{"jump .+8191", 0, 0, "jump .+8191", api.PtFix}, {"jump .+8191", 1, 0, "jump .+8191", api.PtEmulate}, {"jump .-8192", 0, 1, "jump .-8192", api.PtEmulate}, {"jump .-8192", 1, 0, "jump .-8191", api.PtFix},
		{"jump .+8191", 0, 16383, "jump .-8192", api.PtFix}, {"jump .+8191", 0, 16384, "jump .+8191", api.PtEmulate}, {"jump .+0", 7, 7, "jump .+0", api.PtEmulate}, {"jump .-1", 8, 7, "jump .-1", api.PtEmulate},
		{"lea r1, .+0", 7, 7, "lea r1, .+0", api.PtFix}, {"lea r1, .-1", 8, 7, "lea r1, .+0", api.PtFix}, {"lea r1, .-8192", 0, 1, "lea r1, .-8192", api.PtEmulate}, {"lea r1, .+8191", 0, 16383, "lea r1, .-8192", api.PtFix},
		{"bge r1, r2, .+63", 0, 127, "bge r1, r2, .-64", api.PtFix}, {"bge r1, r2, .+63", 0, 128, "bge r1, r2, .+63", api.PtEmulate}, {"bge r1, r2, .+63", 1, 0, "bge r1, r2, .+63", api.PtEmulate},
		{"blt r1, r2, .+1", math.MaxInt64, math.MinInt64, "blt r1, r2, .+1", api.PtEmulate}, {"blt r1, r2, .+2", math.MaxInt64, math.MinInt64, "blt r1, r2, .+1", api.PtFix}, {"jump .+1", math.MinInt64, math.MaxInt64, "jump .+2", api.PtFix}, {"jump .-3", math.MinInt64 + 10, math.MaxInt64, "jump .+8", api.PtFix},
		{"jump .+5", math.MinInt64, 0, "jump .+5", api.PtEmulate}, {"jump .+5", 0, math.MinInt64, "jump .+5", api.PtEmulate}, {"lea r1, .-5", 0, math.MinInt64, "lea r1, .-5", api.PtEmulate},
	} {
		displace(t, c.line, c.from, c.to, c.want, c.mode)
	}
}

// P7.1: instructions that insn.Check does not take.
func TestDisplaceRefuses(t *testing.T) {
	for _, x := range []api.Insn{
		{}, {Op: -1}, {Op: 35}, {Op: 75}, {Op: 77}, {Op: 128 + api.InNop}, {Op: math.MinInt}, {Op: math.MaxInt}, {Op: 1<<32 + api.InJump},
		{Op: api.InNop, A: 1}, {Op: api.InNop, B: 1}, {Op: api.InRet, Imm: 1}, {Op: api.InBreak, A: 1}, {Op: api.InMove, Imm: 1}, {Op: api.InMove, A: 8}, {Op: api.InMove, B: 8}, {Op: api.InMove, A: -1},
		{Op: api.InJump, A: 1}, {Op: api.InJump, Imm: 8192}, {Op: api.InJump, Imm: -8193}, {Op: api.InBeq, Imm: 64}, {Op: api.InBge, Imm: -65}, {Op: api.InBlt, A: 8}, {Op: api.InLea, Imm: 8192}, {Op: api.InLea, B: 1}, {Op: api.InLea, A: -1},
		{Op: api.InCall, Imm: 8192}, {Op: api.InCallR, A: 8}, {Op: api.InSys, Imm: 128}, {Op: api.InSys, Imm: -1}, {Op: api.InJump, Imm: math.MinInt64}, {Op: api.InJump, Imm: math.MaxInt64},
	} {
		// Displaced so far that the operand would fit.
		for _, to := range []int64{0, 5, 100, x.Imm, x.Imm - 1} {
			if out := others()[1].compare(t, given{Insn: x, At: 0, Slot: to}); !equal(out, result{Err: api.ErrInsn}) {
				t.Errorf("Displace of %v to %d: %s", x, to, out.show())
			}
		}
	}
}

// showEffect writes an effect of the registers r: Pc, the registers that change, what is stored, and the trap.
func showEffect(r api.Regs, e api.Effect) string {
	out := fmt.Sprint("pc ", e.Regs.Pc)
	for i := range r.R {
		if e.Regs.R[i] != r.R[i] {
			out += fmt.Sprintf(", r%d %d", i, e.Regs.R[i])
		}
	}
	if len(e.Data) > 0 || e.At != 0 {
		out += fmt.Sprintf(", at %d %v", e.At, e.Data)
	}
	if e.Trap != (api.Trap{}) {
		out += fmt.Sprintf(", trap %v", e.Trap)
	}
	return out
}

// step expects the effect of the instruction at r.Pc, and its mode.
func step(t *testing.T, p api.Patched, r api.Regs, slot int64, line, want string, mode int) {
	t.Helper()
	g := given{P: p, Regs: r, Slot: slot}
	looks()[3].compare(t, g)
	out, how, e := patch.Step(p, r, slot)
	x := api.Insn{}
	if line != "" {
		x = parse(line)
	}
	if got := showEffect(r, out); got != want || how != mode || e != api.OK || out.Insn != x {
		t.Errorf("%s, slot %d, is %v: %s, %d, %d; want %s, %s", line, slot, out.Insn, got, how, e, want, modeNames[mode])
	}
}

// usual are the registers of the tests: r1 to r6 are small numbers and addresses of data, the stack is in the middle of the data.
var usual = [8]int64{1: 7, 2: 130, 3: -9, 5: 1000, 6: 200, api.SP: 160}

// P7.1, P7.2: Step over every operation at the address 6: without a breakpoint, and with one, executed in slots that are near and far.
func TestStep(t *testing.T) {
	for _, c := range []struct {
		line string
		mode int // in a slot that is near
		want string
	}{
		{"nop", api.PtCopy, "pc 7"}, {"move r4, r1", api.PtCopy, "pc 8, r4 7"}, {"set r0, 1099511627776", api.PtCopy, "pc 18, r0 1099511627776"}, {"lit r0, -64", api.PtCopy, "pc 9, r0 -64"},
		{"add r1, r2", api.PtCopy, "pc 8, r1 137"}, {"sub r1, r2", api.PtCopy, "pc 8, r1 -123"}, {"mul r1, r3", api.PtCopy, "pc 8, r1 -63"}, {"div r3, r1", api.PtCopy, "pc 8, r3 -1"}, {"mod r3, r1", api.PtCopy, "pc 8, r3 -2"},
		{"and r1, r2", api.PtCopy, "pc 8, r1 2"}, {"or r1, r2", api.PtCopy, "pc 8, r1 135"}, {"xor r1, r2", api.PtCopy, "pc 8, r1 133"}, {"shl r1, r1", api.PtCopy, "pc 8, r1 896"}, {"shr r3, r1", api.PtCopy, "pc 8, r3 144115188075855871"}, {"sar r3, r1", api.PtCopy, "pc 8, r3 -1"},
		{"inc r1, -8", api.PtCopy, "pc 9, r1 -1"}, {"load1 r0, [r2+1]", api.PtCopy, "pc 9, r0 42"}, {"load8 r0, [r2-2]", api.PtCopy, "pc 9, r0 704643072"}, {"store1 [r2+3], r3", api.PtCopy, "pc 9, at 133 [247]"}, {"store8 [r2], r1", api.PtCopy, "pc 9, at 130 [7 0 0 0 0 0 0 0]"},
		{"beq r1, r1, .+5", api.PtFix, "pc 14"}, {"beq r1, r2, .+5", api.PtFix, "pc 9"}, {"bne r1, r2, .-9", api.PtFix, "pc 0"}, {"bne r1, r1, .-9", api.PtFix, "pc 9"}, {"blt r3, r1, .+60", api.PtFix, "pc 69"}, {"blt r1, r3, .+60", api.PtFix, "pc 9"}, {"bge r1, r1, .-3", api.PtFix, "pc 6"}, {"bge r3, r1, .-3", api.PtFix, "pc 9"},
		{"jump .+100", api.PtFix, "pc 109"}, {"jump .-4000", api.PtFix, "pc -3991"}, {"jumpr r5", api.PtCopy, "pc 1000"}, {"jumpr r1", api.PtCopy, "pc 7"},
		{"call .+100", api.PtEmulate, "pc 109, r7 152, at 152 [9 0 0 0 0 0 0 0]"}, {"callr r5", api.PtEmulate, "pc 1000, r7 152, at 152 [8 0 0 0 0 0 0 0]"}, {"callr r7", api.PtEmulate, "pc 160, r7 152, at 152 [8 0 0 0 0 0 0 0]"}, {"ret", api.PtCopy, "pc 77, r7 168"},
		{"push r1", api.PtCopy, "pc 8, r7 152, at 152 [7 0 0 0 0 0 0 0]"}, {"push r7", api.PtCopy, "pc 8, r7 152, at 152 [160 0 0 0 0 0 0 0]"}, {"pop r0", api.PtCopy, "pc 8, r0 77, r7 168"}, {"pop r7", api.PtCopy, "pc 8, r7 77"},
		{"lea r0, .+90", api.PtFix, "pc 10, r0 100"}, {"lea r0, .+0", api.PtFix, "pc 10, r0 10"}, {"swap r1, [r2]", api.PtCopy, "pc 8, r1 10752, at 130 [7 0 0 0 0 0 0 0]"},
		// Traps of each kind that instructions have.
		{"sys 0", api.PtEmulate, "pc 8, trap {1 0 {0 0}}"}, {"sys 127", api.PtEmulate, "pc 8, trap {1 127 {0 0}}"}, {"break", api.PtEmulate, "pc 6, trap {2 0 {0 0}}"}, {"div r1, r0", api.PtCopy, "pc 6, trap {5 0 {0 0}}"}, {"mod r3, r4", api.PtCopy, "pc 6, trap {5 0 {0 0}}"},
		{"load1 r0, [r1]", api.PtCopy, "pc 6, trap {3 0 {2 7}}"}, {"load8 r0, [r6+63]", api.PtCopy, "pc 6, trap {3 0 {2 263}}"}, {"load8 r0, [r5]", api.PtCopy, "pc 6, trap {3 0 {1 1000}}"}, {"store1 [r6], r1", api.PtCopy, "pc 6, trap {3 0 {3 200}}"}, {"store8 [r2+60], r1", api.PtCopy, "pc 6, trap {3 0 {3 192}}"}, {"store8 [r1-1], r1", api.PtCopy, "pc 6, trap {3 0 {3 6}}"}, {"swap r0, [r6]", api.PtCopy, "pc 6, trap {3 0 {3 200}}"}, {"swap r0, [r0]", api.PtCopy, "pc 6, trap {3 0 {2 0}}"},
	} {
		s := with(bare(), 6, c.line)
		s.Bytes[131], s.Bytes[160] = 42, 77
		r := api.Regs{R: usual, Pc: 6}
		step(t, api.Patched{Space: s}, r, 1000, c.line, c.want, api.PtNone)
		step(t, patchedAt(s, 0, 126), r, 1000, c.line, c.want, api.PtNone)
		for _, slot := range []int64{6, 12, 30, 5} {
			step(t, patchedAt(s, 0, 6, 126), r, slot, c.line, c.want, c.mode)
		}
		if c.mode == api.PtFix {
			c.mode = api.PtEmulate
		}
		for _, slot := range []int64{1 << 40, -1 << 20, math.MaxInt64, math.MaxInt64 - 1, math.MinInt64} {
			step(t, patchedAt(s, 0, 6, 126), r, slot, c.line, c.want, c.mode)
		}
	}
}

// P7.1, P7.2: traps of instructions that use the stack, with a stack pointer that is no address of it.
func TestStepStack(t *testing.T) {
	for _, c := range []struct {
		line string
		sp   int64
		mode int
		want string
	}{
		{"push r1", 128, api.PtCopy, "pc 6, trap {3 0 {3 120}}"}, {"push r1", 0, api.PtCopy, "pc 6, trap {3 0 {1 -8}}"}, {"pop r1", 250, api.PtCopy, "pc 6, trap {3 0 {2 256}}"}, {"ret", 377, api.PtCopy, "pc 6, trap {3 0 {2 377}}"}, {"ret", math.MaxInt64, api.PtCopy, "pc 6, trap {3 0 {1 9223372036854775807}}"},
		{"call .+5", 135, api.PtEmulate, "pc 6, trap {3 0 {3 127}}"}, {"callr r1", 205, api.PtEmulate, "pc 6, trap {3 0 {3 197}}"},
	} {
		s := with(bare(), 6, c.line)
		r := api.Regs{R: [8]int64{api.SP: c.sp}, Pc: 6}
		step(t, api.Patched{Space: s}, r, 1000, c.line, c.want, api.PtNone)
		for _, slot := range []int64{6, 1000, math.MinInt64} {
			step(t, patchedAt(s, 6), r, slot, c.line, c.want, c.mode)
		}
	}
}

// P7.1, P7.2: a jump or a return to the byte behind the slot goes there; all else that ends behind the slot goes on behind the instruction.
func TestStepBehindSlot(t *testing.T) {
	for _, slot := range []int64{20, 96, 1000, -2, math.MaxInt64, math.MaxInt64 - 1, math.MinInt64} {
		to := func(n int64) string { return fmt.Sprint("pc ", slot+n) }
		run := func(line, want string, mode int, stack int64) {
			t.Helper()
			s := with(bare(), 6, line)
			for i := range 8 {
				s.Bytes[160+i] = byte(stack >> (8 * i))
			}
			r := api.Regs{R: usual, Pc: 6}
			r.R[1] = slot + 2
			step(t, patchedAt(s, 6), r, slot, line, want, mode)
			step(t, api.Patched{Space: s}, r, slot, line, want, api.PtNone)
		}
		run("jumpr r1", to(2), api.PtCopy, 0)
		run("ret", to(1)+", r7 168", api.PtCopy, slot+1)
		run("ret", to(0)+", r7 168", api.PtCopy, slot)
		run("callr r1", to(2)+", r7 152, at 152 [8 0 0 0 0 0 0 0]", api.PtEmulate, 0)
		run("nop", "pc 7", api.PtCopy, 0)
		run("pop r1", fmt.Sprint("pc 8, r1 ", slot+3, ", r7 168"), api.PtCopy, slot+3)
	}
	for _, c := range []struct{ line, want string }{
		{"jump .+14", "pc 23"}, {"beq r1, r1, .+14", "pc 23"}, {"bne r1, r2, .+14", "pc 23"}, {"blt r3, r1, .+14", "pc 23"}, {"bge r1, r1, .+14", "pc 23"}, {"beq r1, r2, .+14", "pc 9"}, {"bne r1, r1, .+14", "pc 9"},
	} {
		step(t, patchedAt(with(bare(), 6, c.line), 6), api.Regs{R: usual, Pc: 6}, 20, c.line, c.want, api.PtEmulate)
		// The target is not that byte, but the next one, or the slot itself.
		step(t, patchedAt(with(bare(), 6, c.line), 6), api.Regs{R: usual, Pc: 6}, 21, c.line, c.want, api.PtFix)
		step(t, patchedAt(with(bare(), 6, c.line), 6), api.Regs{R: usual, Pc: 6}, 23, c.line, c.want, api.PtFix)
	}
	step(t, patchedAt(with(bare(), 6, "lea r0, .+14"), 6), api.Regs{Pc: 6}, 20, "lea r0, .+14", "pc 10, r0 24", api.PtFix)
}

// P7.1, P7.3: Step where no breakpoint is: between them, within a patched instruction, at breakpoints of the program, in data, and at no address.
func TestStepElsewhere(t *testing.T) {
	p := base()
	for _, c := range []struct {
		pc         int64
		line, want string
	}{
		{3, "jump .-6", "pc 0"}, {9, "nop", "pc 10"}, {11, "break", "pc 11, trap {2 0 {0 0}}"}, {24, "move r1, r2", "pc 26"},
		// Bytes of patched instructions, which are no instructions.
		{1, "", "pc 1, trap {4 0 {0 0}}"}, {2, "", "pc 2, trap {4 0 {0 0}}"}, {13, "", "pc 13, trap {4 0 {0 0}}"}, {23, "", "pc 23, trap {4 0 {0 0}}"}, {64, "", "pc 64, trap {4 0 {0 0}}"}, {127, "", "pc 127, trap {4 0 {0 0}}"},
		{dataAt, "", "pc 128, trap {3 0 {4 128}}"}, {fixedAt, "", "pc 192, trap {3 0 {4 192}}"}, {noneAt, "", "pc 256, trap {3 0 {4 256}}"}, {spaceTo, "", "pc 384, trap {3 0 {1 384}}"}, {-1, "", "pc -1, trap {3 0 {1 -1}}"}, {math.MaxInt64, "", "pc 9223372036854775807, trap {3 0 {1 9223372036854775807}}"}, {math.MinInt64, "", "pc -9223372036854775808, trap {3 0 {1 -9223372036854775808}}"},
	} {
		for _, slot := range []int64{1000, c.pc, math.MinInt64} {
			step(t, p, api.Regs{Pc: c.pc}, slot, c.line, c.want, api.PtNone)
		}
	}
	// An instruction that is not complete at the end of the space, and ahead of a breakpoint.
	cut := with(bare(), 381, "move r1, r2")
	cut.Bytes[383] = 130
	step(t, patchedAt(cut, 381), api.Regs{Pc: 383}, 5, "", "pc 383, trap {3 0 {1 384}}", api.PtNone)
	cut.Bytes[9] = 130
	step(t, patchedAt(cut, 10, 11), api.Regs{Pc: 9}, 5, "", "pc 9, trap {4 0 {0 0}}", api.PtNone)
}

// P7.1, P7.2: Step at the breakpoints of the base state: each instruction does what it does without one.
func TestStepAtBreakpoints(t *testing.T) {
	p := base()
	for _, c := range []struct {
		pc, slot   int64
		line, want string
		mode       int
	}{
		{0, 1000, "inc r0, 1", "pc 3, r0 1", api.PtCopy}, {10, 1000, "break", "pc 10, trap {2 0 {0 0}}", api.PtEmulate}, {10, 10, "break", "pc 10, trap {2 0 {0 0}}", api.PtEmulate}, {12, 1000, "set r2, 130", "pc 24, r2 130", api.PtCopy},
		{62, 1000, "lit r4, 1", "pc 65, r4 1", api.PtCopy}, {126, 0, "move r1, r2", "pc 128", api.PtCopy}, {383, -1, "nop", "pc 384", api.PtCopy},
	} {
		step(t, p, api.Regs{Pc: c.pc}, c.slot, c.line, c.want, c.mode)
	}
	// The examples of the chapter.
	q := patchedAt(bare(), 0, 3)
	step(t, q, api.Regs{R: [8]int64{4}}, 1000, "inc r0, 1", "pc 3, r0 5", api.PtCopy)
	step(t, q, api.Regs{Pc: 3}, 1000, "jump .-6", "pc 0", api.PtFix)
}
