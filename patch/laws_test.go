package patch_test

import (
	"fmt"
	"slices"
	"testing"

	"tapline/api"
	"tapline/cpu"
	"tapline/insn"
	"tapline/mem"
	"tapline/patch"
)

// enough expects each case to have been met so many times.
func enough(t *testing.T, counts map[string]int, least int, cases ...string) {
	t.Helper()
	for _, c := range cases {
		if counts[c] < least {
			t.Errorf("too few cases of %s: %v", c, counts)
		}
	}
}

// clean returns the clean space of a valid patched space.
func clean(t *testing.T, p api.Patched) api.Space {
	t.Helper()
	s, e := patch.Clean(p)
	if e != api.OK {
		t.Fatalf("Clean of %v: %d", p.L, e)
	}
	return s
}

// sound expects a patched space to be valid.
func sound(t *testing.T, what string, p api.Patched) {
	t.Helper()
	if _, ok := modelClean(p); !ok || patch.Check(p) != api.OK {
		t.Fatalf("%s returns what is not valid: %v in %s", what, p.L, showSpace(p.Space))
	}
}

// aimed returns a patched space that has, at an address which it returns, an instruction of an operation, in half of the cases with a breakpoint, and registers and a slot with which it is seldom a fault.
func (m maker) aimed(op int) (api.Patched, api.Regs, int64) {
	s := m.space()
	s.Perm, s.Bytes = append([]int{4, 3, 4}, s.Perm...), append(make([]byte, 192), s.Bytes...)
	s.Perm, s.Bytes = s.Perm[:min(len(s.Perm), 32)], s.Bytes[:min(len(s.Bytes), 2048)]
	m.codeInto(s.Bytes[:64])
	m.Read(s.Bytes[64:128])
	m.codeInto(s.Bytes[128:192])
	at := pick(m, int64(m.Intn(52)), int64(128+m.Intn(52)))
	code, e := insn.Encode(m.formed(op))
	if e != api.OK {
		panic("no instruction")
	}
	copy(s.Bytes[at:], code)
	p := m.patch(s)
	if i := indexOf(p, at); i < 0 && m.Intn(2) == 0 && len(p.L) < 64 {
		p, _ = modelInstall(p, at)
	}
	r, slot := m.regs(p)
	r.Pc = at
	for i := range r.R {
		r.R[i] = pick(m, r.R[i], r.R[i], int64(72+m.Intn(48)), int64(72+m.Intn(48)), 0)
	}
	if m.Intn(2) == 0 {
		slot = at + int64(m.Intn(60)) - 30
	}
	return p, r, slot
}

// P7.2: the effect of Step is that of cpu.Step in the clean space, for every operation, with each mode that it can have.
func TestTransparency(t *testing.T) {
	m := newMaker()
	counts := map[string]int{}
	same := func(p api.Patched, r api.Regs, slot int64) (api.Effect, int) {
		t.Helper()
		got, mode, e := patch.Step(p, r, slot)
		want, _ := cpu.Step(clean(t, p), r)
		if e != api.OK || !equal(got, want) {
			t.Fatalf("Step at %d, slot %d: %v, error %d; want %v", r.Pc, slot, got, e, want)
		}
		counts[fmt.Sprint("trap ", got.Trap.Kind, " ", modeNames[mode])]++
		return got, mode
	}
	for _, op := range ops() {
		for range 150 {
			out, mode := same(m.aimed(op))
			if out.Insn.Op == op {
				counts[fmt.Sprint(op, " ", modeNames[mode])]++
			}
		}
		modes := []string{"none", "copy"}
		if _, relative := reaches[op]; relative {
			modes = []string{"none", "fix", "emulate"}
		} else if slices.Contains(emulated, op) {
			modes = []string{"none", "emulate"}
		}
		for _, mode := range modes {
			enough(t, counts, 10, fmt.Sprint(op, " ", mode))
		}
	}
	for range 4000 {
		p, _ := m.patched()
		r, slot := m.regs(p)
		same(p, r, slot)
	}
	enough(t, counts, 20, "trap 0 none", "trap 0 copy", "trap 0 fix", "trap 0 emulate", "trap 1 none", "trap 1 emulate", "trap 2 none", "trap 2 emulate", "trap 3 none", "trap 3 copy", "trap 3 emulate", "trap 4 none", "trap 5 none", "trap 5 copy")
}

// P7.2: at each address of a space whose instructions all have breakpoints, with slots all around it.
func TestTransparencyEverywhere(t *testing.T) {
	s := with(bare(), 26, "l: beq r0, r0, .+20; bge r1, r0, l; jump l; lea r5, l; jumpr r5; push r5; ret; sys 3; callr r5; swap r5, [r6]; load8 r1, [r6]")
	p := patchedAt(s, 0, 3, 6, 9, 10, 11, 12, 24, 26, 29, 32, 35, 39, 41, 43, 44, 46, 48, 50, 62)
	for pc := int64(-2); pc < 70; pc++ {
		for slot := int64(-75); slot < 110; slot++ {
			r := api.Regs{R: [8]int64{5: slot + pc%4, 6: dataAt, api.SP: dataAt + 32}, Pc: pc}
			got, _, e := patch.Step(p, r, slot)
			if want, _ := cpu.Step(s, r); e != api.OK || !cpu.Same(got, want) {
				t.Fatalf("Step at %d, slot %d: %v, error %d; want %v", pc, slot, got, e, want)
			}
		}
	}
}

// P7.3: cpu.Step itself meets TrBreak at each breakpoint, and elsewhere does what it does in the clean space.
func TestOtherInstructions(t *testing.T) {
	m := newMaker()
	counts := map[string]int{}
	one := func(p api.Patched, r api.Regs) {
		t.Helper()
		got, e := cpu.Step(p.Space, r)
		if e != api.OK {
			t.Fatal(e)
		}
		if _, is := patch.Find(p, r.Pc); is {
			counts["patched"]++
			if got.Trap != (api.Trap{Kind: api.TrBreak}) || got.Regs != r {
				t.Fatalf("at the breakpoint %d: %v", r.Pc, got)
			}
			return
		}
		counts[fmt.Sprint("trap ", got.Trap.Kind)]++
		if want, _ := cpu.Step(clean(t, p), r); !cpu.Same(got, want) {
			t.Fatalf("at %d: %v; want %v, with the breakpoints %v", r.Pc, got, want, p.L)
		}
	}
	for range 3000 {
		p, r, _ := m.aimed(pick(m, ops()...))
		one(p, r)
	}
	for range 60 {
		p, _ := m.patched()
		r, _ := m.regs(p)
		for _, x := range p.L {
			// Into the middle of a patched instruction, and closely ahead of it.
			for r.Pc = x.At - 3; r.Pc < x.At+12; r.Pc++ {
				one(p, r)
			}
		}
	}
	enough(t, counts, 10, "patched", "trap 0", "trap 1", "trap 2", "trap 3", "trap 4", "trap 5")
}

// P7.4: Remove behind Install is what was ahead of it; neither changes the clean space.
func TestInstallAndRemove(t *testing.T) {
	m := newMaker()
	counts := map[string]int{}
	for range 1500 {
		p, s := m.patched()
		for _, at := range append(standing(s), m.address(p)) {
			if m.Intn(8) > 0 {
				continue
			}
			q, e := patch.Install(p, at)
			if e == api.OK {
				counts[fmt.Sprint("Install ", indexOf(p, at) >= 0)]++
				sound(t, "Install", q)
				if back, e := patch.Remove(q, at); e != api.OK || !equal(back, p) {
					t.Fatalf("Remove behind Install at %d: %v, error %d; want %v", at, back.L, e, p.L)
				}
				if !equal(clean(t, q), s) {
					t.Fatalf("Install at %d changes the clean space", at)
				}
			}
			q, e = patch.Remove(p, at)
			if e == api.OK {
				counts[fmt.Sprint("Remove ", indexOf(q, at) >= 0)]++
				sound(t, "Remove", q)
				if !equal(clean(t, q), s) {
					t.Fatalf("Remove at %d changes the clean space", at)
				}
			}
		}
	}
	enough(t, counts, 100, "Install true", "Install false", "Remove true", "Remove false")
}

// P7.4: Install and Remove at different addresses commute.
func TestCommute(t *testing.T) {
	m := newMaker()
	calls := map[string]func(p api.Patched, at int64) (api.Patched, api.Errno){"Install": patch.Install, "Remove": patch.Remove}
	counts := map[string]int{}
	for range 4000 {
		p, s := m.patched()
		list := standing(s)
		if len(list) < 2 {
			continue
		}
		place := func() int64 {
			if n := len(p.L); n > 0 && m.Intn(2) == 0 {
				return p.L[m.Intn(n)].At
			}
			return pick(m, list...)
		}
		a, b := place(), place()
		first, second := pick(m, "Install", "Remove"), pick(m, "Install", "Remove")
		p1, e1 := calls[first](p, a)
		p2, e2 := calls[second](p, b)
		if a == b || e1 != api.OK || e2 != api.OK {
			continue
		}
		ab, e1 := calls[second](p1, b)
		ba, e2 := calls[first](p2, a)
		// One of them may have found the last place of 64, and then the other one has an error in one of the orders.
		if e1 == api.OK && e2 == api.OK {
			counts[first+" "+second]++
			if !equal(ab, ba) {
				t.Fatalf("%s at %d and %s at %d: %v and %v", first, a, second, b, ab.L, ba.L)
			}
		} else if len(p.L) < 63 {
			t.Fatalf("%s at %d and %s at %d: %d, %d", first, a, second, b, e1, e2)
		}
	}
	enough(t, counts, 100, "Install Install", "Install Remove", "Remove Install", "Remove Remove")
}

// programs go on for long; they stay in the first two pages, and use the third one.
var programs = []string{
	"l: inc r0, 1; push r0; pop r1; add r2, r1; jump l",
	"jump m; f: inc r3, 1; push r3; pop r4; ret; m: call f; lea r5, f; callr r5; store8 [r6], r3; load8 r2, [r6]; blt r2, r1, m; set r1, 5000; jump m",
	"set r1, 3; l: lit r2, 10; k: inc r2, -1; bne r2, r0, k; swap r1, [r6]; store1 [r6+9], r1; mul r1, r1; lea r5, l; jumpr r5",
	"l: lit r2, 3; div r1, r2; bge r1, r2, m; set r1, 1000000; m: nop; mod r2, r1; xor r3, r2; beq r3, r0, l; shl r3, r2; sar r3, r2; jump l",
	"set r1, 4; l: inc r1, -1; push r1; div r3, r1; jump l",
	"l: inc r0, 1; push r0; call l",
	"set r4, 9; l: inc r4, -1; bne r4, r0, l; sys 7",
	"lit r1, 20; l: inc r1, -1; bne r1, r0, l; break",
}

// P7.5: runs in which breakpoints are installed and removed at will have the registers and the memory of runs without them, up to the first trap.
func TestRuns(t *testing.T) {
	m := newMaker()
	counts := map[string]int{}
	for i := range 240 {
		s := with(bare(), 0, programs[i%len(programs)])
		p := api.Patched{Space: clone(s)}
		r := api.Regs{R: [8]int64{6: dataAt, api.SP: fixedAt}}
		places := standing(s)
		for n := 0; n < 200; n++ {
			for range m.Intn(3) {
				at := pick(m, pick(m, places...), r.Pc, r.Pc+int64(m.Intn(4)))
				q, e := pick(m, patch.Install, patch.Install, patch.Remove)(p, at)
				if e == api.OK {
					p = q
				}
			}
			got, mode, e := patch.Step(p, r, pick(m, 1000, r.Pc+int64(m.Intn(40)-20), int64(m.Uint64())))
			want, e2 := cpu.Step(s, r)
			counts[modeNames[mode]]++
			if e != api.OK || e2 != api.OK || !equal(got, want) {
				t.Fatalf("%s, instruction %d at %d: %v, error %d; want %v", programs[i%len(programs)], n, r.Pc, got, e, want)
			}
			if got.Trap.Kind != api.TrNone {
				counts[fmt.Sprint("trap ", got.Trap.Kind)]++
				break
			}
			p, e = patch.Apply(p, got)
			s, e2 = cpu.Apply(s, want)
			if e != api.OK || e2 != api.OK || !equal(clean(t, p), s) {
				t.Fatalf("%s, instruction %d at %d: other memory", programs[i%len(programs)], n, r.Pc)
			}
			r = got.Regs
		}
	}
	enough(t, counts, 20, "trap 1", "trap 2", "trap 3", "trap 5")
	enough(t, counts, 1000, "none", "copy", "fix", "emulate")
}

// P7.6: what is executed in another place stores the same, traps alike, and leaves the same registers.
func TestDisplacement(t *testing.T) {
	m := newMaker()
	counts := map[string]int{}
	for _, op := range ops() {
		for range 250 {
			p, r, to := m.aimed(op)
			from := pick(m, r.Pc, m.address(p))
			x := m.formed(op)
			d, mode, e := patch.Displace(x, from, to)
			if e != api.OK {
				t.Fatal(x, e)
			}
			if mode == api.PtEmulate {
				if d != x {
					t.Fatalf("%v is emulated as %v", x, d)
				}
				continue
			}
			here, there := api.Regs{R: r.R, Pc: from}, api.Regs{R: r.R, Pc: to}
			a, e1 := cpu.Exec(x, p.Space, here)
			b, e2 := cpu.Exec(d, p.Space, there)
			if e1 != api.OK || e2 != api.OK || a.Trap != b.Trap || a.At != b.At || !slices.Equal(a.Data, b.Data) || a.Regs.R != b.Regs.R {
				t.Fatalf("%v at %d: %v; %v at %d: %v", x, from, a, d, to, b)
			}
			next, _ := cpu.Next(x, from)
			if own := a.Trap.Kind == api.TrNone && a.Regs.Pc == next || a.Trap.Kind != api.TrNone && a.Regs.Pc == from; !own && a.Regs.Pc != b.Regs.Pc {
				t.Fatalf("%v at %d goes on at %d; %v at %d goes on at %d", x, from, a.Regs.Pc, d, to, b.Regs.Pc)
			}
			counts[fmt.Sprint(op, " ", a.Trap.Kind)]++
		}
		if !slices.Contains(emulated, op) {
			enough(t, counts, 20, fmt.Sprint(op, " 0"))
		}
	}
	for _, op := range []int{api.InLoad1, api.InLoad8, api.InStore1, api.InStore8, api.InRet, api.InPush, api.InPop, api.InSwap} {
		enough(t, counts, 20, fmt.Sprint(op, " ", api.TrFault))
	}
	enough(t, counts, 20, fmt.Sprint(api.InDiv, " ", api.TrDivide), fmt.Sprint(api.InMod, " ", api.TrDivide))
}

// P7.7: the clean space of Rebase is the space given; Rebase to the own clean space changes nothing.
func TestRebasing(t *testing.T) {
	m := newMaker()
	counts := map[string]int{}
	for range 3000 {
		p, s := m.patched()
		if same, e := patch.Rebase(p, s); e != api.OK || !equal(same, p) {
			t.Fatalf("Rebase to the clean space: %v, error %d; want %v", same.L, e, p.L)
		}
		other := m.rebased(p)
		q, e := patch.Rebase(p, other)
		counts[fmt.Sprintf("error %d %v", e, len(p.L) > 0 && !equal(other, s))]++
		if e != api.OK {
			continue
		}
		sound(t, "Rebase", q)
		if !equal(clean(t, q), other) || len(q.L) != len(p.L) {
			t.Fatalf("Rebase of %v to %s: %v in %s", p.L, showSpace(other), q.L, showSpace(q.Space))
		}
		for i, x := range q.L {
			if x.At != p.L[i].At || x.N != p.L[i].N {
				t.Fatalf("Rebase of %v: %v", p.L, q.L)
			}
		}
	}
	enough(t, counts, 50, "error 0 true", "error 71 true", "error 30 true")
}

// P7.8: the clean space of Apply is cpu.Apply of the clean space, with the same error.
func TestStores(t *testing.T) {
	m := newMaker()
	counts := map[string]int{}
	for range 4000 {
		p, s := m.patched()
		effect := m.effect(p)
		if m.Intn(4) == 0 {
			effect, _, _ = patch.Step(m.aimed(pick(m, api.InStore1, api.InStore8, api.InPush, api.InSwap, api.InCall)))
		}
		q, e := patch.Apply(p, effect)
		want, e2 := cpu.Apply(s, effect)
		counts[fmt.Sprintf("error %d %v", e, len(effect.Data) > 0 && len(p.L) > 0)]++
		if e != e2 {
			t.Fatalf("Apply of %v: error %d; want %d", effect, e, e2)
		}
		if e != api.OK {
			continue
		}
		sound(t, "Apply", q)
		if !equal(clean(t, q), want) || !equal(q.L, p.L) || !mem.Same(clean(t, q), want) {
			t.Fatalf("Apply of %v: %v in %s", effect, q.L, showSpace(q.Space))
		}
	}
	enough(t, counts, 200, "error 0 true", "error 40 true")
}
