package cpu_test

import (
	"math"
	"slices"
	"testing"

	"tapline/api"
	"tapline/cpu"
)

// P4.1: Alu of all pairs of values at the ends of ranges, and of others, against the model.
func TestAlu(t *testing.T) {
	m := newMaker()
	for op := api.InAdd; op <= api.InSar; op++ {
		check := func(a, b int64) {
			want, ok := modelAlu(op, a, b)
			if v, is, e := cpu.Alu(op, a, b); v != want || is != ok || e != api.OK {
				t.Errorf("Alu(%d, %d, %d) = %d, %v, %d; want %d, %v", op, a, b, v, is, e, want, ok)
			}
		}
		for _, a := range ends {
			for _, b := range ends {
				check(a, b)
			}
		}
		for b := int64(-130); b <= 130; b++ {
			check(m.value(), b)
			check(int64(m.Uint64()), b)
		}
		for range 200 {
			check(m.value(), m.value())
		}
	}
}

// P4.1: a division by 0 has no value, and no error.
func TestAluDividesByZero(t *testing.T) {
	for _, op := range []int{api.InDiv, api.InMod} {
		for _, a := range ends {
			if v, ok, e := cpu.Alu(op, a, 0); v != 0 || ok || e != api.OK {
				t.Errorf("Alu(%d, %d, 0) = %d, %v, %d", op, a, v, ok, e)
			}
		}
	}
}

// P4.1: operations that are none of InAdd to InSar.
func TestAluRefuses(t *testing.T) {
	bad := []int{math.MinInt, -5, -1, 0, api.InNop, api.InMove, api.InSet, api.InLit, api.InInc, api.InLoad1, api.InSwap, 35, api.InBreak, 77, 128 + api.InAdd, 1 << 32, 1<<32 + api.InAdd, math.MaxInt}
	for op := api.InInc; op < 300; op++ {
		bad = append(bad, op)
	}
	for _, op := range bad {
		for _, b := range []int64{0, 1} {
			if v, ok, e := cpu.Alu(op, 5, b); v != 0 || ok || e != api.ErrArg {
				t.Errorf("Alu(%d, 5, %d) = %d, %v, %d", op, b, v, ok, e)
			}
		}
	}
}

// P4.1: Next of each operation, also where the address wraps around.
func TestNext(t *testing.T) {
	m := newMaker()
	for _, row := range rows {
		for range 20 {
			x := m.instruction(row)
			for _, at := range append([]int64{m.value()}, ends...) {
				if to := next(t, x, at); to != sum(at, int64(row.length)) {
					t.Errorf("Next(%v, %d) = %d", x, at, to)
				}
			}
		}
	}
	if to := next(t, api.Insn{Op: api.InSet}, math.MaxInt64); to != math.MinInt64+11 {
		t.Errorf("Next of 12 bytes at the last address: %d", to)
	}
}

// P4.1: Taken of each operation: of jumps always, of branches by their condition, of no other one.
func TestTaken(t *testing.T) {
	m := newMaker()
	for _, row := range rows {
		for range 150 {
			x, r := m.instruction(row), m.regs(api.Space{Perm: []int{both}})
			if m.Intn(3) == 0 {
				r.R[x.A] = r.R[x.B]
			}
			if is := taken(t, x, r); is != modelTaken(x, r) {
				t.Errorf("Taken(%v, %v) = %v", x, r, is)
			}
		}
	}
	for _, c := range []struct {
		line string
		r    api.Regs
		want bool
	}{
		{"beq r1, r2, .+1", regs(0), true}, {"bne r1, r2, .+1", regs(0), false}, {"blt r1, r2, .+1", regs(0), false}, {"bge r1, r2, .+1", regs(0), true}, {"blt r1, r2, .+1", regs(0, 1, least, 2, most), true}, {"bge r1, r2, .+1", regs(0, 1, least, 2, most), false}, {"beq r1, r2, .+0", regs(0, 1, 1), false}, {"bne r1, r2, .+0", regs(0, 1, 1), true},
		{"jump .+0", regs(0), true}, {"jumpr r1", regs(0), true}, {"call .+0", regs(0), true}, {"callr r1", regs(0), true}, {"ret", regs(0), true}, {"lea r1, .+4", regs(0), false}, {"nop", regs(0), false}, {"sys 1", regs(0), false}, {"break", regs(0), false}, {"push r1", regs(0), false}, {"pop r1", regs(0), false}, {"set r1, 4", regs(0, 1, 1), false},
	} {
		if is := taken(t, parse(t, c.line), c.r); is != c.want {
			t.Errorf("Taken(%s, %v) = %v", c.line, c.r, is)
		}
	}
}

// P4.1: the footprint of each operation: what is read stands ahead of what is written.
func TestFootprint(t *testing.T) {
	for _, c := range []struct {
		line string
		r    api.Regs
		want []api.Access
	}{
		{"load1 r1, [r2+63]", regs(0, 2, 100), []api.Access{{At: 163, Size: 1}}}, {"load8 r1, [r2-64]", regs(0, 2, 100), []api.Access{{At: 36, Size: 8}}}, {"load8 r2, [r2]", regs(0, 2, -5), []api.Access{{At: -5, Size: 8}}},
		{"store1 [r2+1], r1", regs(0, 1, 7, 2, 100), []api.Access{{At: 101, Size: 1, Write: true}}}, {"store8 [r2-1], r1", regs(0, 1, 7, 2, 100), []api.Access{{At: 99, Size: 8, Write: true}}}, {"store8 [r7], r1", regs(0, 7, 3), []api.Access{{At: 3, Size: 8, Write: true}}},
		{"load1 r1, [r2+1]", regs(0, 2, most), []api.Access{{At: least, Size: 1}}}, {"store8 [r2-1], r1", regs(0, 2, least), []api.Access{{At: most, Size: 8, Write: true}}},
		{"call .+5", regs(90, 7, 100), []api.Access{{At: 92, Size: 8, Write: true}}}, {"callr r7", regs(90, 7, 100), []api.Access{{At: 92, Size: 8, Write: true}}}, {"push r7", regs(90, 7, 100), []api.Access{{At: 92, Size: 8, Write: true}}}, {"push r1", regs(0, 7, least), []api.Access{{At: most - 7, Size: 8, Write: true}}},
		{"ret", regs(90, 7, 100), []api.Access{{At: 100, Size: 8}}}, {"pop r1", regs(90, 7, 100), []api.Access{{At: 100, Size: 8}}}, {"pop r7", regs(90, 7, most), []api.Access{{At: most, Size: 8}}},
		{"swap r1, [r2]", regs(0, 1, 5, 2, 70), []api.Access{{At: 70, Size: 8}, {At: 70, Size: 8, Write: true}}}, {"swap r7, [r7]", regs(0, 7, -1), []api.Access{{At: -1, Size: 8}, {At: -1, Size: 8, Write: true}}},
		{"nop", regs(9, 7, 8), nil}, {"move r1, r2", regs(9, 7, 8), nil}, {"lea r1, .+5", regs(9, 7, 8), nil}, {"jump .+5", regs(9, 7, 8), nil}, {"jumpr r7", regs(9, 7, 8), nil}, {"sys 4", regs(9, 7, 8), nil}, {"break", regs(9, 7, 8), nil}, {"beq r1, r2, .+5", regs(9, 7, 8), nil}, {"div r1, r7", regs(9), nil},
	} {
		if got := footprint(t, parse(t, c.line), c.r); !slices.Equal(got, c.want) {
			t.Errorf("Footprint(%s, %v) = %v; want %v", c.line, c.r, got, c.want)
		}
	}
	newMaker().each(60, func(x api.Insn, s api.Space, r api.Regs) {
		if got, want := footprint(t, x, r), modelFootprint(x, r); !slices.Equal(got, want) {
			t.Errorf("Footprint(%v, %v) = %v; want %v", x, r, got, want)
		}
	})
}

// P4.1: Same of effects that are equal, and of ones that differ in a single thing.
func TestSame(t *testing.T) {
	base := func() api.Effect {
		return api.Effect{Regs: regs(3, 0, 1, 1, 2, 2, 3, 3, 4, 4, 5, 5, 6, 6, 7, 7, 8), At: 64, Data: []byte{1, 2}, Trap: api.Trap{Kind: 3, N: 4, Fault: api.Fault{Kind: 1, At: 2}}, Insn: api.Insn{Op: 1, A: 2, B: 3, Imm: 4}}
	}
	changes := []func(x *api.Effect){
		func(x *api.Effect) { x.Regs.Pc++ }, func(x *api.Effect) { x.At++ }, func(x *api.Effect) { x.Data = nil }, func(x *api.Effect) { x.Data = []byte{1} }, func(x *api.Effect) { x.Data = []byte{1, 3} }, func(x *api.Effect) { x.Data = []byte{0, 2} }, func(x *api.Effect) { x.Data = []byte{1, 2, 0} },
		func(x *api.Effect) { x.Trap.Kind++ }, func(x *api.Effect) { x.Trap.N++ }, func(x *api.Effect) { x.Trap.Fault.Kind++ }, func(x *api.Effect) { x.Trap.Fault.At++ }, func(x *api.Effect) { x.Insn.Op++ }, func(x *api.Effect) { x.Insn.A++ }, func(x *api.Effect) { x.Insn.B++ }, func(x *api.Effect) { x.Insn.Imm++ },
	}
	for i := range 8 {
		changes = append(changes, func(x *api.Effect) { x.Regs.R[i]++ })
	}
	if !cpu.Same(base(), base()) || !cpu.Same(api.Effect{}, api.Effect{}) {
		t.Error("equal effects are not the same")
	}
	for i, change := range changes {
		x := base()
		change(&x)
		if cpu.Same(base(), x) || cpu.Same(x, base()) {
			t.Errorf("change %d: %v is the same as %v", i, x, base())
		}
		if !cpu.Same(x, x) {
			t.Errorf("change %d: %v is not the same as itself", i, x)
		}
	}
	a, b := base(), base()
	a.Data, b.Data = nil, []byte{}
	if !cpu.Same(a, b) || !cpu.Same(b, a) || !cpu.Same(api.Effect{}, api.Effect{Data: []byte{}}) || cpu.Same(api.Effect{}, api.Effect{Data: []byte{0}}) {
		t.Error("nil and empty Data")
	}
}

// badSpaces are not valid, each for one reason.
func badSpaces() []api.Space {
	return []api.Space{
		{Bytes: make([]byte, 1)}, {Perm: []int{exec}}, {Perm: []int{exec}, Bytes: make([]byte, 63)}, {Perm: []int{exec, both}, Bytes: make([]byte, 129)}, {Perm: []int{2}, Bytes: make([]byte, 64)}, {Perm: []int{exec, 5}, Bytes: make([]byte, 128)}, {Perm: []int{-1}, Bytes: make([]byte, 64)}, {Perm: slices.Repeat([]int{exec}, 33), Bytes: make([]byte, 33*64)},
	}
}

// badInsns are not well-formed, each for one reason.
func badInsns() []api.Insn {
	out := []api.Insn{{}, {Op: -1}, {Op: 35}, {Op: 75}, {Op: 77}, {Op: 204}, {Op: math.MinInt}, {Op: math.MaxInt}, {Op: api.InNop, A: 1}, {Op: api.InNop, Imm: 1}, {Op: api.InPush, B: 1}, {Op: api.InSys, A: 1}, {Op: api.InSys, Imm: 128}, {Op: api.InSys, Imm: -1}, {Op: api.InMove, Imm: 1}, {Op: api.InSwap, Imm: 1}, {Op: api.InSet, B: 1}, {Op: api.InJump, A: 1}}
	for _, r := range rows {
		out = append(out, api.Insn{Op: r.op, A: 8}, api.Insn{Op: r.op, A: -1}, api.Insn{Op: r.op, B: 8}, api.Insn{Op: r.op, B: math.MinInt}, api.Insn{Op: r.op, A: math.MaxInt})
		if r.op != api.InSet {
			out = append(out, api.Insn{Op: r.op, Imm: r.most + 1}, api.Insn{Op: r.op, Imm: r.least - 1}, api.Insn{Op: r.op, Imm: math.MaxInt64})
		}
	}
	return out
}

// P4.1: an instruction that is not well-formed is refused, with zero results.
func TestBadInstructions(t *testing.T) {
	for _, x := range badInsns() {
		for _, r := range []api.Regs{{}, regs(3, 0, 64, 1, 64, 7, 128)} {
			if y, e := cpu.Exec(x, sample(), r); !equal(y, api.Effect{}) || e != api.ErrInsn {
				t.Errorf("Exec(%v) = %v, %d", x, y, e)
			}
			if l, e := cpu.Footprint(x, r); len(l) != 0 || e != api.ErrInsn {
				t.Errorf("Footprint(%v) = %v, %d", x, l, e)
			}
			if is, e := cpu.Taken(x, r); is || e != api.ErrInsn {
				t.Errorf("Taken(%v) = %v, %d", x, is, e)
			}
			if to, e := cpu.Next(x, r.Pc); to != 0 || e != api.ErrInsn {
				t.Errorf("Next(%v) = %d, %d", x, to, e)
			}
		}
	}
}

// P4.1: a space that is not valid is the first error, whatever else is wrong, with zero results.
func TestBadSpaces(t *testing.T) {
	r := regs(0, 1, 5, 7, 128)
	for _, s := range badSpaces() {
		for _, x := range append(badInsns(), api.Insn{Op: api.InNop}, api.Insn{Op: api.InBreak}, api.Insn{Op: api.InPush}, api.Insn{Op: api.InDiv}) {
			if y, e := cpu.Exec(x, s, r); !equal(y, api.Effect{}) || e != api.ErrSpace {
				t.Errorf("Exec(%v, %v) = %v, %d", x, s.Perm, y, e)
			}
		}
		for _, pc := range []int64{0, 64, -1, math.MaxInt64} {
			if y, e := cpu.Step(s, regs(pc, 7, 8)); !equal(y, api.Effect{}) || e != api.ErrSpace {
				t.Errorf("Step(%v) at %d = %v, %d", s.Perm, pc, y, e)
			}
		}
		for _, x := range []api.Effect{{}, {At: 1}, {Data: make([]byte, 9)}, {Data: []byte{1}}, {Data: []byte{1}, Trap: api.Trap{Kind: 1}}} {
			if y, e := cpu.Apply(s, x); !isZeroSpace(y) || e != api.ErrSpace {
				t.Errorf("Apply(%v, %v) = %v, %d", s.Perm, x, y, e)
			}
		}
		for _, n := range []int{0, 1, 2000, -1, 2001, math.MinInt, math.MaxInt} {
			if y, x, done, e := cpu.Run(s, r, n); !isZeroSpace(y) || !equal(x, api.Effect{}) || done != 0 || e != api.ErrSpace {
				t.Errorf("Run(%v, %d) = %v, %v, %d, %d", s.Perm, n, y, x, done, e)
			}
		}
	}
}

// P4.1: numbers of instructions that are negative or too large.
func TestRunRefuses(t *testing.T) {
	for _, s := range []api.Space{{}, sample(), codeAt([]int{exec}, 0, assemble(t, loop)...)} {
		for _, n := range []int{-1, -2000, 2001, 1 << 32, 1<<32 + 1, math.MinInt, math.MaxInt} {
			if y, x, done, e := cpu.Run(s, regs(0, 1, 5), n); !isZeroSpace(y) || !equal(x, api.Effect{}) || done != 0 || e != api.ErrArg {
				t.Errorf("Run(%v, %d) = %v, %v, %d, %d", s.Perm, n, y, x, done, e)
			}
		}
	}
}

// P4.1: arguments stay as they are.
func TestArgumentsStay(t *testing.T) {
	m := newMaker()
	for range 300 {
		s := m.code(t, 1, 3)
		kept := modelApply(s, api.Effect{})
		r := m.regs(s)
		r.Pc = 0
		x := step(t, s, r)
		data := slices.Clone(x.Data)
		effect(t, m.any(), s, r)
		apply(t, s, x)
		run(t, s, r, 20)
		if !equalSpaces(s, kept) || !slices.Equal(x.Data, data) {
			t.Fatalf("an argument has changed: %v, %v", s, x)
		}
	}
}

// spoil changes all bytes and permissions of a space.
func spoil(s api.Space) {
	for i := range s.Bytes {
		s.Bytes[i] ^= 255
	}
	for i := range s.Perm {
		s.Perm[i] = none
	}
}

// P4.1: results share no memory with arguments, or with other results.
func TestResultsAreNew(t *testing.T) {
	s := codeAt([]int{exec, both}, 0, assemble(t, "push r1\nbreak")...)
	kept := modelApply(s, api.Effect{})
	r := regs(0, 1, 5, 7, 128)
	x := step(t, s, r)
	for i := range x.Data {
		x.Data[i] = 99
	}
	for i, y := range []api.Effect{step(t, s, r), effect(t, x.Insn, s, r)} {
		if !slices.Equal(y.Data, word(5)) {
			t.Errorf("effect %d shares its Data: %v", i, y)
		}
	}
	spoil(apply(t, s, api.Effect{}))
	spoil(apply(t, s, api.Effect{Data: []byte{}, Trap: api.Trap{Kind: api.TrSys}}))
	spoil(apply(t, s, x))
	for n, pc := range []int64{0, 0, 2, 0} {
		out, _, _ := run(t, s, regs(pc, 7, 128), n)
		spoil(out)
	}
	if !equalSpaces(s, kept) {
		t.Errorf("a result shares memory with the space: %v", s)
	}
	out := apply(t, s, x)
	x.Data[0] = 1
	if out.Bytes[120] != 99 {
		t.Error("a space shares memory with the effect that was applied")
	}
	last, y, _ := run(t, s, r, 1)
	spoil(last)
	if !slices.Equal(y.Data, word(5)) {
		t.Errorf("the last effect of a run shares memory with the space: %v", y)
	}
	swap := parse(t, "swap r1, [r2]")
	l := footprint(t, swap, r)
	l[0].At, l[1].Size = 7, 7
	if again := footprint(t, swap, r); !slices.Equal(again, modelFootprint(swap, r)) {
		t.Errorf("a footprint shares memory with another one: %v", again)
	}
}
