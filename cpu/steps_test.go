package cpu_test

import (
	"bytes"
	"math"
	"slices"
	"testing"

	"tapline/api"
	"tapline/cpu"
)

// P4.1: Step at instructions, in a page and from one page into the next one.
func TestStep(t *testing.T) {
	code := []int{exec, exec, both}
	set := []byte{131, 3, 1, 0, 0, 0, 0, 0, 0, 0, 0, 0}
	for _, c := range []struct {
		perm []int
		at   int
		b    []byte
		r    api.Regs
		want api.Effect
	}{
		{code, 0, []byte{130, 10}, regs(0, 2, 6), api.Effect{Regs: regs(2, 1, 6, 2, 6), Insn: api.Insn{Op: api.InMove, A: 1, B: 2}}},
		{code, 63, []byte{130, 10}, regs(63, 2, 6), api.Effect{Regs: regs(65, 1, 6, 2, 6), Insn: api.Insn{Op: api.InMove, A: 1, B: 2}}},
		{code, 126, []byte{130, 10}, regs(126, 2, 6), api.Effect{Regs: regs(128, 1, 6, 2, 6), Insn: api.Insn{Op: api.InMove, A: 1, B: 2}}},
		{code, 60, set, regs(60), api.Effect{Regs: regs(72, 3, 1), Insn: api.Insn{Op: api.InSet, A: 3, Imm: 1}}},
		{code, 53, set, regs(53), api.Effect{Regs: regs(65, 3, 1), Insn: api.Insn{Op: api.InSet, A: 3, Imm: 1}}},
		{code, 63, set, regs(63), api.Effect{Regs: regs(75, 3, 1), Insn: api.Insn{Op: api.InSet, A: 3, Imm: 1}}},
		{code, 116, set, regs(116), api.Effect{Regs: regs(128, 3, 1), Insn: api.Insn{Op: api.InSet, A: 3, Imm: 1}}},
		{code, 127, []byte{129}, regs(127), api.Effect{Regs: regs(128), Insn: api.Insn{Op: api.InNop}}},
		{code, 127, []byte{204}, regs(127), api.Effect{Regs: regs(127), Trap: api.Trap{Kind: api.TrBreak}, Insn: api.Insn{Op: api.InBreak}}},
		{code, 9, []byte{161, 3}, regs(9), api.Effect{Regs: regs(11), Trap: api.Trap{Kind: api.TrSys, N: 3}, Insn: api.Insn{Op: api.InSys, Imm: 3}}},
		{code, 9, []byte{158, 1}, regs(9, 1, 5, 7, 136), api.Effect{Regs: regs(11, 1, 5, 7, 128), At: 128, Data: word(5), Insn: api.Insn{Op: api.InPush, A: 1}}},
		{code, 9, []byte{158, 1}, regs(9, 1, 5, 7, 135), api.Effect{Regs: regs(9, 1, 5, 7, 135), Trap: fault(api.FtWrite, 127), Insn: api.Insn{Op: api.InPush, A: 1}}},
		{[]int{exec}, 52, set, regs(52), api.Effect{Regs: regs(64, 3, 1), Insn: api.Insn{Op: api.InSet, A: 3, Imm: 1}}},
	} {
		if got := step(t, codeAt(c.perm, c.at, c.b...), c.r); !equal(got, c.want) {
			t.Errorf("Step at %d of %v: %v; want %v", c.r.Pc, c.b, got, c.want)
		}
	}
}

// P4.1: Step where there is no instruction: the fault of the first byte that is missing, or TrIllegal.
func TestStepWithoutInstruction(t *testing.T) {
	illegal := api.Trap{Kind: api.TrIllegal}
	for _, c := range []struct {
		perm []int
		at   int
		b    []byte
		pc   int64
		want api.Trap
	}{
		// An incomplete instruction, ahead of a page of each kind, and at the end of the space.
		{[]int{exec, both}, 63, []byte{130, 10}, 63, fault(api.FtExec, 64)}, {[]int{exec, read}, 63, []byte{130, 10}, 63, fault(api.FtExec, 64)}, {[]int{exec, none, exec}, 63, []byte{130, 10}, 63, fault(api.FtExec, 64)}, {[]int{exec}, 63, []byte{130}, 63, fault(api.FtMap, 64)},
		{[]int{exec, both}, 53, []byte{131, 3, 1, 0, 0, 0, 0, 0, 0, 0, 0, 0}, 53, fault(api.FtExec, 64)}, {[]int{both, exec}, 117, []byte{131, 3, 1, 0, 0, 0, 0, 0, 0, 0, 0}, 117, fault(api.FtMap, 128)}, {[]int{exec, exec}, 125, []byte{160, 1, 0}, 125, fault(api.FtMap, 128)},
		{slices.Repeat([]int{exec}, 32), 2047, []byte{159}, 2047, fault(api.FtMap, 2048)},
		// No byte at all.
		{[]int{exec, both}, 64, []byte{129}, 64, fault(api.FtExec, 64)}, {[]int{exec, none}, 64, []byte{129}, 100, fault(api.FtExec, 100)}, {[]int{read, exec}, 63, []byte{129, 129}, 63, fault(api.FtExec, 63)}, {[]int{exec}, 0, []byte{129}, 64, fault(api.FtMap, 64)}, {[]int{exec}, 0, []byte{129}, -1, fault(api.FtMap, -1)},
		{[]int{exec}, 0, []byte{129}, math.MaxInt64, fault(api.FtMap, math.MaxInt64)}, {[]int{exec}, 0, []byte{129}, math.MinInt64, fault(api.FtMap, math.MinInt64)}, {nil, 0, nil, 0, fault(api.FtMap, 0)},
		// Bytes that are none, also where they are the last ones.
		{[]int{exec, both}, 0, []byte{5}, 0, illegal}, {[]int{exec, both}, 0, []byte{0, 129}, 0, illegal}, {[]int{exec, both}, 3, []byte{128}, 3, illegal}, {[]int{exec, both}, 3, []byte{163}, 3, illegal}, {[]int{exec, both}, 3, []byte{255}, 3, illegal}, {[]int{exec, both}, 3, []byte{130, 64}, 3, illegal}, {[]int{exec, both}, 3, []byte{130, 204}, 3, illegal},
		{[]int{exec, both}, 63, []byte{5}, 63, illegal}, {[]int{exec}, 63, []byte{205}, 63, illegal}, {[]int{exec, both}, 62, []byte{131, 8}, 62, illegal}, {[]int{exec, exec}, 63, []byte{161, 128}, 63, illegal}, {[]int{exec}, 52, []byte{131, 3, 1, 0, 0, 0, 0, 0, 0, 0, 0, 1}, 52, illegal},
		// In the middle of an instruction.
		{[]int{exec, both}, 0, []byte{130, 10}, 1, illegal},
	} {
		s, r := codeAt(c.perm, c.at, c.b...), regs(c.pc, 1, 5, 7, 66)
		if got, want := step(t, s, r), (api.Effect{Regs: r, Trap: c.want}); !equal(got, want) {
			t.Errorf("Step at %d, with %v at %d, in pages %v: %v; want %v", c.pc, c.b, c.at, c.perm, got, want)
		}
	}
}

// P4.1: Step against the model, at each address of spaces of code, and of any bytes.
func TestStepEverywhere(t *testing.T) {
	m := newMaker()
	for i := range 60 {
		s := m.code(t, 1+m.Intn(3), m.Intn(3))
		if i%3 == 0 {
			s = m.space()
		}
		if i%4 == 0 && len(s.Perm) > 0 {
			s.Perm[m.Intn(len(s.Perm))] = pagePerms[m.Intn(4)]
		}
		for pc := int64(-2); pc < int64(len(s.Bytes))+3; pc++ {
			r := m.regs(s)
			r.Pc = pc
			if got, want := step(t, s, r), modelStep(s, r); !equal(got, want) {
				t.Errorf("Step(%v, %v) = %v; want %v", s.Perm, r, got, want)
			}
		}
	}
}

// P4.1, P4.9: effects that can be applied.
func TestApply(t *testing.T) {
	for _, c := range []api.Effect{
		{}, {Data: []byte{}}, {Regs: regs(7, 1, 8)}, {Insn: api.Insn{Op: 99, A: -1}}, {At: 64, Data: []byte{1}}, {At: 191, Data: []byte{7}}, {At: 64, Data: word(-2)}, {At: 184, Data: word(1 << 60)}, {At: 376, Data: word(5)}, {At: 124, Data: word(0x0102030405060708)}, {At: 190, Data: []byte{0, 0}}, {At: 100, Data: []byte{1, 2, 3, 4, 5, 6, 7}},
		{Trap: api.Trap{Kind: api.TrSys, N: 4}}, {Trap: api.Trap{Kind: api.TrBreak}}, {Trap: fault(api.FtMap, 9)}, {Trap: api.Trap{Kind: api.TrIllegal}}, {Trap: api.Trap{Kind: api.TrDivide}, Data: []byte{}}, {Trap: api.Trap{Kind: -1}}, {Trap: api.Trap{Kind: 77}},
		{At: 64, Data: []byte{1}, Trap: api.Trap{N: 3}}, {At: 64, Data: []byte{1}, Trap: api.Trap{Fault: api.Fault{Kind: 1, At: 2}}}, {At: 70, Data: []byte{1}, Regs: regs(-1), Insn: api.Insn{Op: -5}},
	} {
		if got, e := cpu.Apply(sample(), c); e != api.OK || !equalSpaces(got, modelApply(sample(), c)) {
			t.Errorf("Apply of %v: %v, %d", c, got, e)
		}
	}
	if got, e := cpu.Apply(api.Space{}, api.Effect{}); e != api.OK || !isZeroSpace(got) {
		t.Errorf("Apply of nothing to no page: %v, %d", got, e)
	}
	full := codeAt(slices.Repeat([]int{both}, 32), 0)
	if got, e := cpu.Apply(full, api.Effect{At: 2040, Data: word(-1)}); e != api.OK || !bytes.Equal(got.Bytes[2039:], append([]byte{0}, word(-1)...)) {
		t.Errorf("Apply at the end of the largest space: %d", e)
	}
}

// P4.1: effects that cannot be applied.
func TestApplyRefuses(t *testing.T) {
	for _, c := range []api.Effect{
		{At: 64, Data: make([]byte, 9)}, {At: 64, Data: make([]byte, 16)}, {At: 64, Data: make([]byte, 3000)},
		{At: 1}, {At: -1}, {At: 64, Data: []byte{}}, {At: math.MinInt64}, {At: 64, Trap: api.Trap{Kind: api.TrSys}},
		{At: 64, Data: []byte{1}, Trap: api.Trap{Kind: api.TrSys}}, {At: 64, Data: []byte{1}, Trap: api.Trap{Kind: api.TrDivide}}, {At: 64, Data: word(1), Trap: api.Trap{Kind: api.TrBreak}}, {At: 64, Data: word(1), Trap: fault(api.FtMap, 1)}, {At: 64, Data: word(1), Trap: api.Trap{Kind: -1}}, {At: 64, Data: word(1), Trap: api.Trap{Kind: api.TrIllegal}},
		{At: 0, Data: []byte{1}}, {At: 63, Data: []byte{1}}, {At: 60, Data: word(1)}, {At: 192, Data: []byte{1}}, {At: 185, Data: word(1)}, {At: 260, Data: []byte{1}}, {At: 319, Data: []byte{1, 2}}, {At: 384, Data: []byte{1}}, {At: 377, Data: word(1)}, {At: -1, Data: word(1)}, {At: math.MaxInt64, Data: word(1)}, {At: math.MaxInt64 - 7, Data: word(1)}, {At: math.MinInt64, Data: []byte{1}},
	} {
		if got, e := cpu.Apply(sample(), c); e != api.ErrEffect || !isZeroSpace(got) {
			t.Errorf("Apply of %v: %v, %d", c, got, e)
		}
	}
	if got, e := cpu.Apply(api.Space{}, api.Effect{Data: []byte{1}}); e != api.ErrEffect || !isZeroSpace(got) {
		t.Errorf("Apply to no page: %v, %d", got, e)
	}
}

// loop jumps to itself, counting in r1.
const loop = "l: inc r1, 1\njump l"

// P4.1: Run of 0, 1 and 2000 instructions.
func TestRunOfGivenLengths(t *testing.T) {
	s, r := codeAt([]int{exec, both}, 0, assemble(t, loop)...), regs(0, 1, 10, 7, 3)
	for _, c := range []struct {
		n    int
		want api.Effect
	}{
		{0, api.Effect{Regs: r}},
		{1, api.Effect{Regs: regs(3, 1, 11, 7, 3), Insn: api.Insn{Op: api.InInc, A: 1, Imm: 1}}},
		{2, api.Effect{Regs: regs(0, 1, 11, 7, 3), Insn: api.Insn{Op: api.InJump, Imm: -6}}},
		{1999, api.Effect{Regs: regs(3, 1, 1010, 7, 3), Insn: api.Insn{Op: api.InInc, A: 1, Imm: 1}}},
		{2000, api.Effect{Regs: regs(0, 1, 1010, 7, 3), Insn: api.Insn{Op: api.InJump, Imm: -6}}},
	} {
		out, x, n, e := cpu.Run(s, r, c.n)
		if e != api.OK || n != c.n || !equal(x, c.want) || !equalSpaces(out, s) {
			t.Errorf("Run of %d: %v, %d, %d; want %v", c.n, x, n, e, c.want)
		}
	}
	if out, x, n, e := cpu.Run(api.Space{}, r, 0); e != api.OK || n != 0 || !equal(x, api.Effect{Regs: r}) || !isZeroSpace(out) {
		t.Errorf("Run of 0 without memory: %v, %v, %d, %d", out, x, n, e)
	}
}

// P4.1: a run that a trap ends returns the effect with the trap, which is not counted.
func TestRunThatTraps(t *testing.T) {
	for _, c := range []struct {
		text string
		r    api.Regs
		done int
		want api.Effect
	}{
		{"lit r1, 3\nsys 5\nlit r1, 4", regs(0), 1, api.Effect{Regs: regs(5, 1, 3), Trap: api.Trap{Kind: api.TrSys, N: 5}, Insn: api.Insn{Op: api.InSys, Imm: 5}}},
		{"sys 5", regs(0), 0, api.Effect{Regs: regs(2), Trap: api.Trap{Kind: api.TrSys, N: 5}, Insn: api.Insn{Op: api.InSys, Imm: 5}}},
		{"break", regs(0, 3, 4), 0, api.Effect{Regs: regs(0, 3, 4), Trap: api.Trap{Kind: api.TrBreak}, Insn: api.Insn{Op: api.InBreak}}},
		{"lit r1, 3\nlit r2, 0\ndiv r1, r2", regs(0, 2, 9), 2, api.Effect{Regs: regs(6, 1, 3), Trap: api.Trap{Kind: api.TrDivide}, Insn: api.Insn{Op: api.InDiv, A: 1, B: 2}}},
		{"push r1\npush r1\npush r1", regs(0, 7, 80), 2, api.Effect{Regs: regs(4, 7, 64), Trap: fault(api.FtWrite, 56), Insn: api.Insn{Op: api.InPush, A: 1}}},
		{"lit r1, 3", regs(0), 1, api.Effect{Regs: regs(3, 1, 3), Trap: api.Trap{Kind: api.TrIllegal}}},
		{"jump .+61", regs(0), 1, api.Effect{Regs: regs(64), Trap: fault(api.FtExec, 64)}},
		{"jump .-4", regs(0), 1, api.Effect{Regs: regs(-1), Trap: fault(api.FtMap, -1)}},
	} {
		s := codeAt([]int{exec, both}, 0, assemble(t, c.text)...)
		for _, n := range []int{c.done + 1, c.done + 2, 2000} {
			if _, x, done, e := cpu.Run(s, c.r, n); e != api.OK || done != c.done || !equal(x, c.want) {
				t.Errorf("Run of %d of %q: %v, %d, %d; want %v, %d", n, c.text, x, done, e, c.want, c.done)
			}
		}
		if _, x, done, e := cpu.Run(s, c.r, c.done); e != api.OK || done != c.done || x.Trap.Kind != api.TrNone {
			t.Errorf("Run of %d of %q: %v, %d, %d", c.done, c.text, x, done, e)
		}
	}
}

// factorial computes, with a call for each factor, the factorial of r1, and leaves it in r2.
const factorial = `	call f
	set r3, 64
	store8 [r3], r2
	sys 0
f:	lit r4, 2
	bge r1, r4, more
	lit r2, 1
	ret
more:	push r1
	inc r1, -1
	call f
	pop r1
	mul r2, r1
	ret`

// P4.1: programs, whose stores the instructions behind them see.
func TestRunOfPrograms(t *testing.T) {
	s := codeAt([]int{exec, both, both, both, both, both}, 0, assemble(t, factorial)...)
	for n, want := range []int64{1, 1, 2, 6, 24, 120, 720, 5040, 40320, 362880, 3628800} {
		out, x, _ := run(t, s, regs(0, 1, int64(n), 7, 384), 500)
		if x.Trap != (api.Trap{Kind: api.TrSys}) || x.Regs.R[2] != want || x.Regs.R[7] != 384 || number(out.Bytes[64:72]) != want {
			t.Errorf("factorial of %d: %v", n, x)
		}
	}
	// Without end the calls fill the stack, down to the code.
	text := "f: call f"
	out, x, done := run(t, codeAt([]int{exec, both}, 0, assemble(t, text)...), regs(0, 7, 128), 100)
	if done != 8 || x.Trap != fault(api.FtWrite, 56) || !bytes.Equal(out.Bytes[64:], bytes.Repeat(word(3), 8)) {
		t.Errorf("calls without end: %v, %d, %v", x, done, out.Bytes[64:])
	}
}

// P4.1: Run against the model.
func TestRun(t *testing.T) {
	m := newMaker()
	for range 400 {
		code := 1 + m.Intn(3)
		s := m.code(t, code, m.Intn(4))
		r, n := m.start(s, code), []int{m.Intn(5), m.Intn(60)}[m.Intn(2)]
		want, last, count := modelRun(s, r, n)
		if out, x, done := run(t, s, r, n); done != count || !equal(x, last) || !equalSpaces(out, want) {
			t.Errorf("Run(%v, %v, %d): %v, %d; want %v, %d", s.Perm, r, n, x, done, last, count)
		}
	}
}
