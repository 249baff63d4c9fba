package patch_test

import (
	"fmt"
	"math"
	"slices"
	"testing"

	"tapline/api"
	"tapline/patch"
)

// change is a change of the base state.
type change struct {
	name string
	make func(p *api.Patched)
}

// under makes the byte under the breakpoint at an address another one.
func under(at int64, old byte) change {
	return change{fmt.Sprintf("Old %d at %d", old, at), func(p *api.Patched) { p.L[indexOf(*p, at)].Old = old }}
}

// kept are changes that leave the patched space valid.
func kept() []change {
	return []change{
		{"none", func(p *api.Patched) {}},
		{"no breakpoints", func(p *api.Patched) { *p = api.Patched{Space: bare()} }},
		{"no pages", func(p *api.Patched) { *p = api.Patched{} }},
		{"empty lists", func(p *api.Patched) {
			*p = api.Patched{Space: api.Space{Perm: []int{}, Bytes: []byte{}}, L: []api.Patch{}}
		}},
		{"64 breakpoints", func(p *api.Patched) { *p = full() }},
		{"64 breakpoints side by side", func(p *api.Patched) { *p = patchedAt(spaceOf(api.PmExec), from(0, 64)...) }},
		{"32 pages", func(p *api.Patched) {
			*p = patchedAt(spaceOf(slices.Repeat([]int{api.PmExec}, 32)...), 0, 2047)
		}},
		{"each address in a page of breakpoints of the program", func(p *api.Patched) {
			s := spaceOf(api.PmExec)
			for at := range s.Bytes {
				s.Bytes[at] = 204
			}
			*p = patchedAt(s, from(0, 64)...)
		}},
		{"N 1", func(p *api.Patched) { p.L[1].N = 1 }}, {"N 1000", func(p *api.Patched) { p.L[0].N = 1000 }},
		{"another breakpoint of the program", func(p *api.Patched) { p.Space.Bytes[9] = 204 }},
		under(10, 129), under(10, 157), under(0, 132), under(0, 204), under(0, 129), under(12, 204), under(12, 132), under(126, 139), under(126, 204), under(383, 157), under(383, 204),
		// The bytes behind these breakpoints are no instructions, nor need they be.
		{"a breakpoint in the middle of an instruction without a breakpoint", func(p *api.Patched) {
			p.Space.Bytes[4] = 204
			p.L = slices.Insert(p.L, 1, api.Patch{At: 4, Old: 129, N: 1})
		}},
		{"a page without permissions between the breakpoints", func(p *api.Patched) { p.Space.Perm[2] = 0 }},
		{"code behind code", func(p *api.Patched) { p.Space.Perm[2] = api.PmExec }},
		{"other bytes of data", func(p *api.Patched) { p.Space.Bytes[dataAt], p.Space.Bytes[noneAt] = 204, 204 }},
	}
}

// changeAt changes one patch; i is its index.
func changeAt(name string, i int, make func(x *api.Patch)) change {
	return change{name, func(p *api.Patched) { make(&p.L[i]) }}
}

// broken are changes that break a condition of a valid patched space, each one a single one if that can be.
func broken() []change {
	out := []change{
		{"permission 2", func(p *api.Patched) { p.Space.Perm[2] = 2 }}, {"permission 7", func(p *api.Patched) { p.Space.Perm[4] = 7 }}, {"permission -1", func(p *api.Patched) { p.Space.Perm[3] = -1 }},
		{"a byte less", func(p *api.Patched) { p.Space.Bytes = p.Space.Bytes[:383]; p.L = p.L[:5] }}, {"a byte more", func(p *api.Patched) { p.Space.Bytes = append(p.Space.Bytes, 0) }},
		{"a page more", func(p *api.Patched) { p.Space.Perm = append(p.Space.Perm, 0) }}, {"33 pages", func(p *api.Patched) {
			p.Space = spaceOf(append(p.Space.Perm, make([]int, 27)...)...)
			p.L = nil
		}},
		{"no space", func(p *api.Patched) { p.Space = api.Space{} }},
		{"a page less", func(p *api.Patched) { p.Space.Perm, p.Space.Bytes = p.Space.Perm[:5], p.Space.Bytes[:320] }},
		{"65 breakpoints", func(p *api.Patched) { *p = patchedAt(spaceOf(api.PmExec, api.PmExec), from(0, 65)...) }},
		{"1000 breakpoints", func(p *api.Patched) { p.L = slices.Repeat(p.L[5:], 1000) }},
		{"neighbours in another order", func(p *api.Patched) { p.L[2], p.L[3] = p.L[3], p.L[2] }},
		{"the first and the last one exchanged", func(p *api.Patched) { p.L[0], p.L[5] = p.L[5], p.L[0] }},
		{"decreasing addresses", func(p *api.Patched) { slices.Reverse(p.L) }},
		{"the first one twice", func(p *api.Patched) { p.L = slices.Insert(p.L, 0, p.L[0]) }},
		{"the last one twice", func(p *api.Patched) { p.L = append(p.L, p.L[5]) }},
		{"an address twice, with other N", func(p *api.Patched) { p.L = slices.Insert(p.L, 3, api.Patch{At: 12, Old: 131, N: 5}) }},
		{"an address twice, the first Old no instruction", func(p *api.Patched) { p.L = slices.Insert(p.L, 0, api.Patch{At: 0, Old: 7, N: 1}) }},
		{"the byte is the old one", func(p *api.Patched) { p.Space.Bytes[0] = 144 }},
		{"the byte at the end is the old one", func(p *api.Patched) { p.Space.Bytes[383] = 129 }},
		{"a breakpoint where none was installed", func(p *api.Patched) { p.L = slices.Insert(p.L, 1, api.Patch{At: 9, Old: 129, N: 1}) }},
		// The clean space has no instruction at 0, because the second byte of one is below 128.
		{"the second byte of an instruction with a breakpoint", func(p *api.Patched) {
			p.Space.Bytes[1] = 204
			p.L = slices.Insert(p.L, 1, api.Patch{At: 1, Old: 129, N: 1})
		}},
		{"the second byte of an instruction with a breakpoint, Old as it was", func(p *api.Patched) {
			p.Space.Bytes[1] = 204
			p.L = slices.Insert(p.L, 1, api.Patch{At: 1, Old: 0, N: 1})
		}},
		{"the last byte of an instruction with a breakpoint", func(p *api.Patched) {
			p.Space.Bytes[23] = 204
			p.L = slices.Insert(p.L, 3, api.Patch{At: 23, Old: 129, N: 1})
		}},
		{"the second byte of an instruction without a breakpoint, Old as it was", func(p *api.Patched) {
			p.Space.Bytes[4] = 204
			p.L = slices.Insert(p.L, 1, api.Patch{At: 4, Old: 122, N: 1})
		}},
		{"the second byte of an instruction is that of another one", func(p *api.Patched) { p.Space.Bytes[1] = 129 }},
		{"the last byte of an instruction is that of another one", func(p *api.Patched) { p.Space.Bytes[23] = 204 }},
		{"no register in the second byte", func(p *api.Patched) { p.Space.Bytes[1] = 8 }},
		{"no registers in the second byte at the end of a page", func(p *api.Patched) { p.Space.Bytes[127] = 64 }},
		// An instruction of 3 bytes that goes on in data, in a page without permissions, and behind the space.
		under(126, 144), under(383, 130), under(383, 131),
		{"an instruction that goes on in a page of data", func(p *api.Patched) { p.Space.Perm[1] = api.PmRead; p.L = p.L[:4] }},
		{"an instruction that goes on in a page without permissions", func(p *api.Patched) { p.Space.Perm[1] = 0; p.L = p.L[:4] }},
	}
	for _, perm := range []int{0, api.PmRead, api.PmRead + api.PmWrite} {
		for _, page := range []int{0, 1, 5} {
			out = append(out, change{fmt.Sprintf("permission %d of page %d", perm, page), func(p *api.Patched) { p.Space.Perm[page] = perm }})
		}
	}
	for _, at := range []int64{-1, math.MinInt64, math.MinInt64 + 10, -383, -1 << 32} {
		out = append(out, changeAt(fmt.Sprint("At ", at), 0, func(x *api.Patch) { x.At = at }))
	}
	for _, at := range []int64{384, 385, 447, 2048, 1 << 32, 1<<32 + 383, math.MaxInt64, 200, 320, 127} {
		out = append(out, changeAt(fmt.Sprint("At ", at), 5, func(x *api.Patch) { x.At = at }))
	}
	for _, n := range []int{0, -1, 1001, 1002, math.MinInt, math.MaxInt, 1 << 32, 1<<32 + 1} {
		for _, i := range []int{0, 3, 5} {
			out = append(out, changeAt(fmt.Sprint("N ", n), i, func(x *api.Patch) { x.N = n }))
		}
	}
	for _, b := range []byte{0, 1, 76, 127, 128, 203, 205, 255} {
		out = append(out, change{fmt.Sprint("the byte ", b), func(p *api.Patched) { p.Space.Bytes[12] = b }})
	}
	for _, b := range []byte{0, 1, 64, 76, 127, 128, 163, 203, 205, 255} {
		out = append(out, under(0, b), under(10, b), under(12, b), under(62, b), under(126, b), under(383, b))
	}
	return out
}

// changed returns the base state with a change.
func changed(c change) api.Patched {
	p := base()
	c.make(&p)
	return p
}

// P7.1: Check of valid patched spaces, at the ends of what is allowed; all functions take them.
func TestValid(t *testing.T) {
	for _, c := range kept() {
		p := changed(c)
		if e := patch.Check(p); e != api.OK {
			t.Errorf("%s: %d", c.name, e)
			continue
		}
		for _, at := range []int64{0, 1, 4, 9, 10, 12, 62, 64, 126, 383} {
			compareAll(t, given{P: p, Q: base(), At: at, Slot: 1000, Regs: api.Regs{Pc: at}, Insn: parse("beq r0, r1, .+5"), Space: bare()})
		}
	}
}

// P7.1: each condition of a valid patched space broken by itself. All functions but Same and Displace return ErrPatch and zero results, whatever else is wrong.
func TestInvalid(t *testing.T) {
	wrong := api.Effect{Data: make([]byte, 9)}
	for _, c := range broken() {
		p := changed(c)
		if e := patch.Check(p); e != api.ErrPatch {
			t.Errorf("%s: Check returns %d", c.name, e)
		}
		for _, g := range []given{
			{P: p, Q: p, Space: bare()},
			{P: p, At: 383, Slot: 1000, Regs: api.Regs{Pc: 383}, Space: api.Space{Perm: []int{2}}},
			{P: p, At: 1, Regs: api.Regs{Pc: 1}, Effect: wrong, Space: spaceOf(3)},
			{P: p, At: math.MinInt64, Slot: math.MaxInt64, Regs: api.Regs{Pc: -1}, Effect: api.Effect{At: dataAt, Data: []byte{1}}},
		} {
			for _, f := range append(changes(), looks()...) {
				if out := f.compare(t, g); !equal(out, result{Err: api.ErrPatch}) {
					t.Errorf("%s: %s at %d returns %s", c.name, f.name, g.At, out.show())
				}
			}
			if i, is := patch.Find(p, g.At); i != 0 || is {
				t.Errorf("%s: Find of %d = %d, %v", c.name, g.At, i, is)
			}
		}
	}
}

// P7.1: lists of patches that are far too long.
func TestManyPatches(t *testing.T) {
	p := base()
	p.L = slices.Repeat(p.L, 500000)
	for _, f := range append(changes(), looks()...) {
		if out := f.make(given{P: p, Space: bare()}); !equal(out, result{Err: api.ErrPatch}) {
			t.Errorf("%s returns %s", f.name, out.show())
		}
	}
	if i, is := patch.Find(p, 0); i != 0 || is {
		t.Errorf("Find = %d, %v", i, is)
	}
	if !patch.Same(p, p) || patch.Same(p, base()) {
		t.Error("Same of long lists")
	}
}

// P7.1: Find in an invalid patched space finds nothing, also what stands ahead of what is wrong.
func TestFindInInvalid(t *testing.T) {
	for _, c := range broken() {
		p := changed(c)
		for _, x := range p.L[:min(len(p.L), 70)] {
			if i, is := patch.Find(p, x.At); i != 0 || is {
				t.Errorf("%s: Find of %d = %d, %v", c.name, x.At, i, is)
			}
		}
	}
}

// P7.1: Find and Original of each address of a space, and of others.
func TestFind(t *testing.T) {
	p := base()
	originals := map[int64]string{0: "inc r0, 1", 10: "break", 12: "set r2, 130", 62: "lit r4, 1", 126: "move r1, r2", 383: "nop"}
	lengths := map[int64]int{0: 3, 10: 1, 12: 12, 62: 3, 126: 2, 383: 1}
	for at := int64(-5); at < spaceTo+5; at++ {
		index := indexOf(p, at)
		if i, is := patch.Find(p, at); is != (index >= 0) || i != max(index, 0) {
			t.Errorf("Find of %d = %d, %v; want %d", at, i, is, index)
		}
		x, n, e := patch.Original(p, at)
		if line, is := originals[at]; is {
			if x != parse(line) || n != lengths[at] || e != api.OK {
				t.Errorf("Original of %d = %v, %d, %d", at, x, n, e)
			}
		} else if x != (api.Insn{}) || n != 0 || e != api.ErrNone {
			t.Errorf("Original of %d, which is not patched = %v, %d, %d", at, x, n, e)
		}
	}
	for _, at := range extreme {
		compareAll(t, given{P: p, At: at, Regs: api.Regs{Pc: at}, Slot: at})
	}
	if i, is := patch.Find(full(), 126); i != 63 || !is {
		t.Errorf("Find of the last one of 64 = %d, %v", i, is)
	}
}

// P7.1: Clean has the old bytes, and nothing else has changed.
func TestClean(t *testing.T) {
	for _, c := range []struct {
		p    api.Patched
		want api.Space
	}{
		{base(), bare()}, {api.Patched{Space: bare()}, bare()}, {api.Patched{}, api.Space{}},
		{full(), with(spaceOf(api.PmExec, api.PmExec), 0, "inc r0, 1")},
		{changed(under(10, 129)), with(bare(), 10, "nop")},
	} {
		s, e := patch.Clean(c.p)
		if e != api.OK || !equal(s, c.want) {
			t.Errorf("Clean returns %d: %s", e, showSpace(s))
		}
		looks()[1].compare(t, given{P: c.p})
	}
}

// P7.1: Same of patched spaces that differ in one field alone, and of invalid ones.
func TestSame(t *testing.T) {
	same := func(what string, a, b api.Patched, want bool) {
		t.Helper()
		if patch.Same(a, b) != want || patch.Same(b, a) != want {
			t.Errorf("Same of %s is not %v", what, want)
		}
		others()[2].compare(t, given{P: a, Q: b})
	}
	for _, c := range append(kept(), broken()...) {
		p := changed(c)
		same(c.name+", twice", p, clone(p), true)
		same(c.name+" and the base", p, base(), c.name == "none")
	}
	same("nil and empty lists", api.Patched{}, api.Patched{Space: api.Space{Perm: []int{}, Bytes: []byte{}}, L: []api.Patch{}}, true)
	same("empty and no list of patches", api.Patched{Space: bare(), L: []api.Patch{}}, api.Patched{Space: bare()}, true)
	for _, c := range []change{
		{"another byte at the end", func(p *api.Patched) { p.Space.Bytes[383]++ }}, {"another byte", func(p *api.Patched) { p.Space.Bytes[dataAt]++ }}, {"another permission", func(p *api.Patched) { p.Space.Perm[4] = 1 }}, {"permissions of no space", func(p *api.Patched) { p.Space.Perm[0] = -9 }},
		changeAt("another At", 0, func(x *api.Patch) { x.At++ }), changeAt("another Old", 5, func(x *api.Patch) { x.Old++ }), changeAt("another N", 2, func(x *api.Patch) { x.N-- }), changeAt("N of no patch", 2, func(x *api.Patch) { x.N = -1 }),
		{"a patch less", func(p *api.Patched) { p.L = p.L[:5] }}, {"a patch more", func(p *api.Patched) { p.L = append(p.L, api.Patch{}) }}, {"no patches", func(p *api.Patched) { p.L = nil }},
		{"a page more", func(p *api.Patched) { p.Space.Perm = append(p.Space.Perm, 0) }}, {"a byte less", func(p *api.Patched) { p.Space.Bytes = p.Space.Bytes[:383] }}, {"no bytes", func(p *api.Patched) { p.Space.Bytes = nil }},
		{"patches in another order", func(p *api.Patched) { slices.Reverse(p.L) }},
	} {
		same(c.name, changed(c), base(), false)
	}
}

// P7.1: all functions of arguments of all kinds, against the model.
func TestModel(t *testing.T) {
	m := newMaker()
	counts := map[string]int{}
	for range 3000 {
		g := m.given()
		for _, c := range allCalls() {
			out := c.compare(t, g)
			counts[fmt.Sprintf("%s %d", c.name, out.Err)]++
		}
	}
	for _, want := range []string{"Install 0", "Install 2", "Install 71", "Remove 0", "Remove 3", "Apply 0", "Apply 40", "Rebase 0", "Rebase 30", "Rebase 71", "Check 70", "Original 0", "Original 3", "Displace 0", "Displace 20", "Step 0"} {
		if counts[want] < 50 {
			t.Errorf("too few cases of %s: %v", want, counts)
		}
	}
}
