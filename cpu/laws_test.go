package cpu_test

import (
	"bytes"
	"math"
	"slices"
	"testing"

	"tapline/api"
	"tapline/cpu"
	"tapline/insn"
	"tapline/mem"
)

// P4.2: an instruction changes the registers that it writes, and Pc; it stores what it writes, and nothing else.
func TestFrame(t *testing.T) {
	stores, traps := 0, 0
	newMaker().each(400, func(x api.Insn, s api.Space, r api.Regs) {
		got := effect(t, x, s, r)
		for i, v := range got.Regs.R {
			if v != r.R[i] && !slices.Contains(insn.Writes(x), i) {
				t.Errorf("%v with %v changes register %d: %v", x, r, i, got)
			}
		}
		if k := got.Trap.Kind; k != api.TrNone && k != api.TrSys {
			traps++
			if got.Regs != r || len(got.Data) > 0 || got.At != 0 {
				t.Errorf("%v with %v has the trap %d, and changes something: %v", x, r, k, got)
			}
		}
		written := api.Access{}
		for _, part := range footprint(t, x, r) {
			if part.Write {
				written = part
			}
		}
		if len(got.Data) == 0 {
			if got.At != 0 || written.Size > 0 && got.Trap.Kind == api.TrNone {
				t.Errorf("%v with %v stores nothing: %v", x, r, got)
			}
			return
		}
		stores++
		if got.At != written.At || len(got.Data) != written.Size {
			t.Errorf("%v with %v stores beyond %v: %v", x, r, written, got)
		}
	})
	if stores < 500 || traps < 500 {
		t.Errorf("only %d stores and %d traps", stores, traps)
	}
}

// P4.2: the same of Step.
func TestFrameOfSteps(t *testing.T) {
	m := newMaker()
	for range 3000 {
		s := m.code(t, 1, 3)
		r := m.regs(s)
		r.Pc = int64(m.Intn(70))
		got := step(t, s, r)
		for i, v := range got.Regs.R {
			if v != r.R[i] && !slices.Contains(insn.Writes(got.Insn), i) {
				t.Errorf("%v with %v changes register %d: %v", got.Insn, r, i, got)
			}
		}
		if k := got.Trap.Kind; k != api.TrNone && k != api.TrSys && got.Regs != r {
			t.Errorf("a trap %d changes registers: %v behind %v", k, got, r)
		}
	}
}

// P4.3: what an instruction does not read does not matter.
func TestDependence(t *testing.T) {
	m, free := newMaker(), 0
	m.each(400, func(x api.Insn, s api.Space, r api.Regs) {
		other, q := m.with(s.Perm...), m.regs(s)
		q.Pc = r.Pc
		for _, i := range insn.Reads(x) {
			q.R[i] = r.R[i]
		}
		for _, part := range footprint(t, x, r) {
			if f, _ := mem.Access(s, part.At, part.Size, api.PmRead); f.Kind == api.FtNone && !part.Write {
				copy(other.Bytes[part.At:part.At+int64(part.Size)], s.Bytes[part.At:])
			}
		}
		a, b := effect(t, x, s, r), effect(t, x, other, q)
		if a.Trap != b.Trap || a.At != b.At || !bytes.Equal(a.Data, b.Data) || a.Regs.Pc != b.Regs.Pc {
			t.Errorf("%v with %v: %v; with other memory and %v: %v", x, r, a, q, b)
		}
		if a.Trap.Kind != api.TrNone {
			return
		}
		free++
		for _, i := range insn.Writes(x) {
			if a.Regs.R[i] != b.Regs.R[i] {
				t.Errorf("%v writes register %d: %v with %v, %v with %v", x, i, a.Regs, r, b.Regs, q)
			}
		}
	})
	if free < 5000 {
		t.Errorf("only %d without a trap", free)
	}
}

// P4.4: an instruction that is not relative has the same effect elsewhere; Pc moves with it, unless it goes where the instruction says.
func TestPosition(t *testing.T) {
	m := newMaker()
	m.each(200, func(x api.Insn, s api.Space, r api.Regs) {
		if insn.Relative(x) {
			return
		}
		moved := r
		moved.Pc = m.address(s)
		a, b := effect(t, x, s, r), effect(t, x, s, moved)
		want := a
		if goes := taken(t, x, r) && a.Trap.Kind == api.TrNone; !goes {
			want.Regs.Pc = a.Regs.Pc + moved.Pc - r.Pc
		}
		if !cpu.Same(b, want) {
			t.Errorf("%v at %d: %v; at %d: %v", x, r.Pc, a, moved.Pc, b)
		}
	})
}

// P4.5: an instruction with a target goes there if it is taken, and otherwise on.
func TestBranches(t *testing.T) {
	m, gone, on := newMaker(), 0, 0
	m.each(400, func(x api.Insn, s api.Space, r api.Regs) {
		if m.Intn(3) == 0 {
			r.R[x.A] = r.R[x.B]
		}
		target, has := insn.Target(x, next(t, x, r.Pc))
		got := effect(t, x, s, r)
		if !has || got.Trap.Kind != api.TrNone {
			return
		}
		want := next(t, x, r.Pc)
		if taken(t, x, r) {
			want = target
			gone++
		} else {
			on++
		}
		if got.Regs.Pc != want {
			t.Errorf("%v with %v: %v; want Pc %d", x, r, got, want)
		}
	})
	if gone < 500 || on < 500 {
		t.Errorf("only %d are taken, and %d not", gone, on)
	}
}

// then returns the effects of an instruction and of a following one, which stands where the first one goes; false, if one of them traps.
func then(t *testing.T, s api.Space, r api.Regs, x, y api.Insn) (api.Space, api.Regs, bool) {
	t.Helper()
	first := effect(t, x, s, r)
	if first.Trap.Kind != api.TrNone {
		return s, r, false
	}
	s = apply(t, s, first)
	second := effect(t, y, s, first.Regs)
	return apply(t, s, second), second.Regs, second.Trap.Kind == api.TrNone
}

// P4.6: a register that is pushed and popped is copied; the stack pointer is as before.
func TestPushAndPop(t *testing.T) {
	m, done := newMaker(), 0
	for range 3000 {
		s := m.with(both, both, read)
		r := m.regs(s)
		a, b := m.Intn(7), m.Intn(7)
		out, behind, ok := then(t, s, r, api.Insn{Op: api.InPush, A: a}, api.Insn{Op: api.InPop, A: b})
		if !ok || a == b {
			continue
		}
		done++
		want := r
		want.R[b], want.Pc = r.R[a], sum(r.Pc, 4)
		if behind != want {
			t.Errorf("push r%d, pop r%d with %v: %v", a, b, r, behind)
		}
		at := r.R[7] - 8
		if !bytes.Equal(out.Bytes[:at], s.Bytes[:at]) || !bytes.Equal(out.Bytes[at:at+8], word(r.R[a])) || !bytes.Equal(out.Bytes[at+8:], s.Bytes[at+8:]) {
			t.Errorf("push r%d with %v stores %v", a, r, out.Bytes)
		}
	}
	if done < 300 {
		t.Errorf("only %d without a trap", done)
	}
}

// P4.6: behind a call and the return the registers are as before, and it goes on behind the call.
func TestCallAndReturn(t *testing.T) {
	m, done := newMaker(), 0
	for range 3000 {
		s := m.with(both, both, read)
		r := m.regs(s)
		x := m.instruction(rowOf([]int{api.InCall, api.InCallR}[m.Intn(2)]))
		_, behind, ok := then(t, s, r, x, api.Insn{Op: api.InRet})
		if !ok {
			continue
		}
		done++
		want := r
		want.Pc = next(t, x, r.Pc)
		if behind != want {
			t.Errorf("%v and ret with %v: %v", x, r, behind)
		}
	}
	if done < 300 {
		t.Errorf("only %d without a trap", done)
	}
}

// P4.6: two exchanges leave registers and memory; one of them exchanges.
func TestSwapTwice(t *testing.T) {
	m, done := newMaker(), 0
	for range 3000 {
		s := m.with(both, both, read)
		r := m.regs(s)
		x := m.instruction(rowOf(api.InSwap))
		out, behind, ok := then(t, s, r, x, x)
		if !ok || x.A == x.B {
			continue
		}
		done++
		want := r
		want.Pc = sum(r.Pc, 4)
		if behind != want || !equalSpaces(out, s) {
			t.Errorf("%v twice with %v: %v", x, r, behind)
		}
		once := effect(t, x, s, r)
		if at := r.R[x.B]; once.Regs.R[x.A] != number(s.Bytes[at:at+8]) || !bytes.Equal(once.Data, word(r.R[x.A])) {
			t.Errorf("%v with %v exchanges nothing: %v", x, r, once)
		}
	}
	if done < 300 {
		t.Errorf("only %d without a trap", done)
	}
}

// P4.7: a run is one run and then another one, wherever it is split.
func TestRunsInParts(t *testing.T) {
	m, long := newMaker(), 0
	for range 150 {
		code := 1 + m.Intn(2)
		s := m.code(t, code, 3)
		r := m.start(s, code)
		total := 1 + m.Intn(25)
		space, last, done := run(t, s, r, total)
		if done > 10 {
			long++
		}
		for n := range total {
			part, x, first := run(t, s, r, n)
			second := 0
			if x.Trap.Kind == api.TrNone {
				part, x, second = run(t, part, x.Regs, total-n)
			}
			if first+second != done || !equal(x, last) || !equalSpaces(part, space) {
				t.Errorf("Run of %d, and then of %d: %v, %d, %d; Run of %d: %v, %d", n, total-n, x, first, second, total, last, done)
			}
		}
		again, x, _ := run(t, space, last.Regs, 0)
		if !equal(x, api.Effect{Regs: last.Regs}) || !equalSpaces(again, space) {
			t.Errorf("Run of %d, and then of 0: %v", total, x)
		}
	}
	if long < 15 {
		t.Errorf("only %d long runs", long)
	}
}

// P4.7: Run is Step and Apply, again and again.
func TestRunIsSteps(t *testing.T) {
	m := newMaker()
	for range 300 {
		code := 1 + m.Intn(2)
		s := m.code(t, code, 3)
		r := m.start(s, code)
		n := m.Intn(40)
		space, last, done := s, api.Effect{Regs: r}, 0
		for done < n && last.Trap.Kind == api.TrNone {
			last = step(t, space, last.Regs)
			space = apply(t, space, last)
			if last.Trap.Kind == api.TrNone {
				done++
			}
		}
		if out, x, count := run(t, s, r, n); count != done || !equal(x, last) || !equalSpaces(out, space) {
			t.Errorf("Run of %d: %v, %d; want %v, %d", n, x, count, last, done)
		}
	}
}

// replaced returns the space in which a byte is 204.
func replaced(t *testing.T, s api.Space, at int64) api.Space {
	t.Helper()
	out, f, e := mem.Poke(s, at, []byte{204})
	if e != api.OK || f.Kind != api.FtNone {
		t.Fatalf("Poke at %d: %v, %d", at, f, e)
	}
	return out
}

// P4.8: a breakpoint at Pc, and at each other byte of code.
func TestBreakpoints(t *testing.T) {
	m := newMaker()
	for round := range 60 {
		s := m.code(t, 2, 2)
		if round%3 == 0 {
			m.Read(s.Bytes[:128])
		}
		r := m.regs(s)
		r.Pc = int64(m.Intn(120))
		if round%5 == 0 {
			r.Pc = int64(115 + m.Intn(13))
		}
		before := step(t, s, r)
		length := int64(1) // of no instruction
		if before.Insn.Op != 0 {
			length = next(t, before.Insn, 0)
		} else if before.Trap.Kind == api.TrFault {
			length = 128 - r.Pc // all bytes of an incomplete instruction
		}
		for at := range int64(128) {
			got := step(t, replaced(t, s, at), r)
			switch {
			case at == r.Pc:
				want := api.Effect{Regs: r, Trap: api.Trap{Kind: api.TrBreak}, Insn: api.Insn{Op: api.InBreak}}
				if !equal(got, want) {
					t.Errorf("Step at a breakpoint at %d, with %v: %v", at, r, got)
				}
			case (at < r.Pc || at >= r.Pc+length) && !equal(got, before):
				t.Errorf("Step at %d with a breakpoint at %d: %v; want %v", r.Pc, at, got, before)
			}
		}
	}
}

// P4.8: a byte replaced by 204 at an instruction, within it, and behind it.
func TestBreakpointsAroundAnInstruction(t *testing.T) {
	s, r := codeAt([]int{exec, both}, 0, assemble(t, "nop\nload1 r1, [r2+3]\nnop")...), regs(1, 2, 100)
	broken := api.Effect{Regs: r, Trap: api.Trap{Kind: api.TrBreak}, Insn: api.Insn{Op: api.InBreak}}
	illegal := api.Effect{Regs: r, Trap: api.Trap{Kind: api.TrIllegal}}
	whole := api.Effect{Regs: regs(4, 1, 0, 2, 100), Insn: api.Insn{Op: api.InLoad1, A: 1, B: 2, Imm: 3}}
	for at, want := range []api.Effect{whole, broken, illegal, illegal, whole, whole} {
		if got := step(t, replaced(t, s, int64(at)), r); !equal(got, want) {
			t.Errorf("Step at 1 with a breakpoint at %d: %v; want %v", at, got, want)
		}
	}
	end := codeAt([]int{exec, both}, 61, 160, 1, 2)
	for at, want := range map[int64]api.Trap{60: fault(api.FtExec, 64), 61: {Kind: api.TrBreak}, 62: {Kind: api.TrIllegal}, 63: {Kind: api.TrIllegal}} {
		if got := step(t, replaced(t, end, at), regs(61)); got.Trap != want || got.Regs != regs(61) {
			t.Errorf("Step at an incomplete instruction with a breakpoint at %d: %v; want %v", at, got, want)
		}
	}
	data := replaced(t, codeAt([]int{exec, both}, 64, 129), 64)
	if got := step(t, data, regs(64)); got.Trap != fault(api.FtExec, 64) {
		t.Errorf("Step at a byte 204 that cannot be executed: %v", got)
	}
}

// P4.8: an instruction cannot tell that there is a breakpoint elsewhere, since it cannot read code.
func TestBreakpointsAreNotRead(t *testing.T) {
	s, r := codeAt([]int{exec, both}, 0, assemble(t, "load1 r1, [r2]\nnop")...), regs(0, 2, 3)
	for _, space := range []api.Space{s, replaced(t, s, 3)} {
		if got := step(t, space, r); got.Trap != fault(api.FtRead, 3) || got.Regs != r {
			t.Errorf("a load of code: %v", got)
		}
	}
}

// P4.9: each effect of Step and of Exec can be applied; what it stores stands there, and all else is as before.
func TestStores(t *testing.T) {
	m, stores := newMaker(), 0
	check := func(s api.Space, x api.Effect) {
		out, e := cpu.Apply(s, x)
		if e != api.OK {
			t.Fatalf("Apply(%v, %v): %d", s.Perm, x, e)
		}
		end := x.At + int64(len(x.Data))
		if !slices.Equal(out.Perm, s.Perm) || len(out.Bytes) != len(s.Bytes) || !bytes.Equal(out.Bytes[:x.At], s.Bytes[:x.At]) || !bytes.Equal(out.Bytes[x.At:end], x.Data) || !bytes.Equal(out.Bytes[end:], s.Bytes[end:]) {
			t.Errorf("Apply(%v, %v) = %v", s, x, out)
		}
		if len(x.Data) > 0 {
			stores++
		}
	}
	m.each(200, func(x api.Insn, s api.Space, r api.Regs) { check(s, effect(t, x, s, r)) })
	for range 2000 {
		s := m.code(t, 1, 3)
		check(s, step(t, s, m.start(s, 1)))
	}
	if stores < 500 {
		t.Errorf("only %d stores", stores)
	}
	// Stores of each length, at each place of a page and from one into the next one.
	s := m.with(read, both, both, exec)
	for n := 1; n <= 8; n++ {
		for at := int64(64); at <= int64(192-n); at++ {
			check(s, api.Effect{At: at, Data: word(m.value())[:n]})
		}
	}
}

// P4.10: Step is Exec of what Decode finds at Pc.
func TestDecoding(t *testing.T) {
	m, found := newMaker(), map[int]bool{}
	for range 6000 {
		s := m.code(t, 2, 2)
		r := m.regs(s)
		r.Pc = int64(m.Intn(132) - 2)
		b, e := mem.Fetch(s, r.Pc, 12)
		if e != api.OK {
			t.Fatal(e)
		}
		got := step(t, s, r)
		x, n, e := insn.Decode(b)
		if e != api.OK {
			if got.Insn != (api.Insn{}) || got.Trap.Kind != api.TrFault && got.Trap.Kind != api.TrIllegal {
				t.Errorf("Step at %v: %v", b, got)
			}
			continue
		}
		found[x.Op] = true
		if want := effect(t, x, s, r); !cpu.Same(got, want) || next(t, x, r.Pc) != r.Pc+int64(n) {
			t.Errorf("Step at %v: %v; want %v", b, got, want)
		}
	}
	if len(found) != len(rows) {
		t.Errorf("only %d operations are found", len(found))
	}
}

// P4.10: each instruction, at each place of two pages of code.
func TestDecodingAtEachPlace(t *testing.T) {
	m := newMaker()
	for _, row := range rows {
		for at := range 128 - row.length + 1 {
			x := m.instruction(row)
			s := m.with(exec, exec, both, read)
			copy(s.Bytes[at:], encode(t, x))
			r := m.regs(s)
			r.Pc = int64(at)
			if got := step(t, s, r); !cpu.Same(got, effect(t, x, s, r)) || got.Insn != x {
				t.Errorf("Step of %v at %d: %v", x, at, got)
			}
		}
	}
}

// P4.1: the widest values of all arguments do not stop a function.
func TestExtremes(t *testing.T) {
	var r api.Regs
	for _, v := range []int64{math.MinInt64, math.MaxInt64, -1} {
		for i := range r.R {
			r.R[i] = v
		}
		r.Pc = v
		for _, row := range rows {
			for _, x := range []api.Insn{{Op: row.op, Imm: row.least}, {Op: row.op, Imm: row.most}} {
				for _, s := range []api.Space{{}, sample(), codeAt(slices.Repeat([]int{both}, 32), 0)} {
					if got, want := effect(t, x, s, r), modelExec(x, s, r); !equal(got, want) {
						t.Errorf("Exec(%v, %v, %v) = %v; want %v", x, s.Perm, r, got, want)
					}
				}
			}
		}
		if got := step(t, sample(), r); got.Trap != fault(api.FtMap, v) {
			t.Errorf("Step with %v: %v", r, got)
		}
	}
}
