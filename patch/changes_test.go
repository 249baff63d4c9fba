package patch_test

import (
	"fmt"
	"math"
	"strings"
	"testing"

	"tapline/api"
)

// showList writes breakpoints: address, old byte, `x` and N.
func showList(l []api.Patch) string {
	var out []string
	for _, x := range l {
		out = append(out, fmt.Sprintf("%d:%dx%d", x.At, x.Old, x.N))
	}
	return strings.Join(out, " ")
}

// theBase is the list of the base state.
const theBase = "0:144x1 10:204x2 12:131x1000 62:132x999 126:130x1 383:129x1"

// makes makes a change with arguments, and expects the error, and the list of breakpoints.
func makes(t *testing.T, name string, g given, want string, e api.Errno) api.Patched {
	t.Helper()
	for _, c := range changes() {
		if c.name != name {
			continue
		}
		out := c.compare(t, g)
		if got := showList(out.P.L); got != want || out.Err != e {
			t.Errorf("%s at %d of %s: %s, error %d; want %s, %d", name, g.At, showList(g.P.L), got, out.Err, want, e)
		}
		for _, x := range out.P.L {
			if out.P.Space.Bytes[x.At] != 204 {
				t.Errorf("%s at %d: no breakpoint at %d", name, g.At, x.At)
			}
		}
		return out.P
	}
	panic("no function " + name)
}

// P7.1: the chapter's examples of Install and Remove.
func TestExamples(t *testing.T) {
	p := api.Patched{Space: with(spaceOf(api.PmExec, api.PmRead+api.PmWrite), 0, "inc r0, 1; jump .-6; call .+10")}
	makes(t, "Install", given{P: p, At: 1}, "", api.ErrCode)
	once := makes(t, "Install", given{P: p, At: 0}, "0:144x1", api.OK)
	twice := makes(t, "Install", given{P: once, At: 0}, "0:144x2", api.OK)
	again := makes(t, "Remove", given{P: twice, At: 0}, "0:144x1", api.OK)
	last := makes(t, "Remove", given{P: again, At: 0}, "", api.OK)
	if !equal(last, p) {
		t.Errorf("without breakpoints: %s", showSpace(last.Space))
	}
	makes(t, "Remove", given{P: last, At: 0}, "", api.ErrNone)
}

// P7.1: Install at the beginning, between, and at the end of the breakpoints, once more, and where no instruction stands.
func TestInstall(t *testing.T) {
	for _, c := range []struct {
		at   int64
		want string
		e    api.Errno
	}{
		{3, "0:144x1 3:153x1 10:204x2 12:131x1000 62:132x999 126:130x1 383:129x1", api.OK}, {6, "0:144x1 6:155x1 10:204x2 12:131x1000 62:132x999 126:130x1 383:129x1", api.OK}, {9, "0:144x1 9:129x1 10:204x2 12:131x1000 62:132x999 126:130x1 383:129x1", api.OK},
		{11, "0:144x1 10:204x2 11:204x1 12:131x1000 62:132x999 126:130x1 383:129x1", api.OK}, {65, "0:144x1 10:204x2 12:131x1000 62:132x999 65:129x1 126:130x1 383:129x1", api.OK}, {lastAt, "0:144x1 10:204x2 12:131x1000 62:132x999 126:130x1 320:129x1 383:129x1", api.OK},
		{0, "0:144x2 10:204x2 12:131x1000 62:132x999 126:130x1 383:129x1", api.OK}, {10, "0:144x1 10:204x3 12:131x1000 62:132x999 126:130x1 383:129x1", api.OK}, {62, "0:144x1 10:204x2 12:131x1000 62:132x1000 126:130x1 383:129x1", api.OK}, {383, "0:144x1 10:204x2 12:131x1000 62:132x999 126:130x1 383:129x2", api.OK},
		{12, "", api.ErrLong},
		// Second and other bytes of instructions, data, and no addresses.
		{1, "", api.ErrCode}, {2, "", api.ErrCode}, {4, "", api.ErrCode}, {7, "", api.ErrCode}, {13, "", api.ErrCode}, {23, "", api.ErrCode}, {63, "", api.ErrCode}, {64, "", api.ErrCode}, {127, "", api.ErrCode},
		{dataAt, "", api.ErrCode}, {fixedAt, "", api.ErrCode}, {noneAt, "", api.ErrCode}, {spaceTo, "", api.ErrCode}, {spaceTo + 1, "", api.ErrCode}, {-1, "", api.ErrCode}, {math.MaxInt64, "", api.ErrCode}, {math.MinInt64, "", api.ErrCode}, {1 << 32, "", api.ErrCode}, {1<<32 + 3, "", api.ErrCode},
	} {
		makes(t, "Install", given{P: base(), At: c.at}, c.want, c.e)
	}
	// Ahead of the first one, and where there is none.
	makes(t, "Install", given{P: patchedAt(bare(), 3, 9), At: 0}, "0:144x1 3:153x1 9:129x1", api.OK)
	makes(t, "Install", given{P: api.Patched{Space: bare()}, At: 383}, "383:129x1", api.OK)
	makes(t, "Install", given{At: 0}, "", api.ErrCode)
	// In data there are bytes of instructions, but none stands there.
	data := with(bare(), dataAt, "nop; inc r0, 1")
	data.Bytes[fixedAt], data.Bytes[noneAt] = 204, 129
	for _, at := range []int64{dataAt, dataAt + 1, fixedAt, noneAt} {
		makes(t, "Install", given{P: api.Patched{Space: data}, At: at}, "", api.ErrCode)
	}
}

// P7.1: Install of an instruction that is not complete: at the end of the space, ahead of data, and ahead of a breakpoint.
func TestInstallIncomplete(t *testing.T) {
	s := bare()
	s.Bytes[383], s.Bytes[127], s.Bytes[126], s.Bytes[9] = 130, 144, 129, 130
	for _, at := range []int64{383, 127, 9} {
		makes(t, "Install", given{P: patchedAt(s, 10, 11), At: at}, "", api.ErrCode)
	}
	s.Perm[2] = api.PmExec
	makes(t, "Install", given{P: patchedAt(s, 10), At: 127}, "10:204x1 127:144x1", api.OK)
}

// P7.1: Install with 64 breakpoints: at one of them, at another instruction, and where none stands, which comes first.
func TestInstallFull(t *testing.T) {
	p := full()
	list := showList(p.L)
	for _, at := range []int64{1, 2, 128, -1, math.MinInt64} {
		makes(t, "Install", given{P: p, At: at}, "", api.ErrCode)
	}
	for _, at := range []int64{3, 63, 127} {
		makes(t, "Install", given{P: p, At: at}, "", api.ErrLong)
	}
	makes(t, "Install", given{P: p, At: 126}, strings.TrimSuffix(list, "1")+"2", api.OK)
	makes(t, "Install", given{P: p, At: 0}, strings.Replace(list, "x1", "x2", 1), api.OK)
	p.L[0].N, p.L[63].N = 999, 1000
	makes(t, "Install", given{P: p, At: 126}, "", api.ErrLong)
	list = showList(p.L)
	makes(t, "Install", given{P: p, At: 0}, strings.Replace(list, "x999", "x1000", 1), api.OK)
	p.L = p.L[:63]
	p.Space.Bytes[126] = 129
	makes(t, "Install", given{P: p, At: 127}, showList(p.L)+" 127:129x1", api.OK)
}

// P7.1: Remove of the last one that wants a breakpoint, of another one, and where no breakpoint is.
func TestRemove(t *testing.T) {
	for _, c := range []struct {
		at   int64
		want string
		e    api.Errno
	}{
		{0, "10:204x2 12:131x1000 62:132x999 126:130x1 383:129x1", api.OK}, {10, "0:144x1 10:204x1 12:131x1000 62:132x999 126:130x1 383:129x1", api.OK}, {12, "0:144x1 10:204x2 12:131x999 62:132x999 126:130x1 383:129x1", api.OK},
		{126, "0:144x1 10:204x2 12:131x1000 62:132x999 383:129x1", api.OK}, {383, "0:144x1 10:204x2 12:131x1000 62:132x999 126:130x1", api.OK},
		{1, "", api.ErrNone}, {3, "", api.ErrNone}, {9, "", api.ErrNone}, {11, "", api.ErrNone}, {13, "", api.ErrNone}, {dataAt, "", api.ErrNone}, {spaceTo, "", api.ErrNone}, {-1, "", api.ErrNone}, {math.MinInt64, "", api.ErrNone}, {math.MaxInt64, "", api.ErrNone}, {1 << 32, "", api.ErrNone},
	} {
		p := makes(t, "Remove", given{P: base(), At: c.at}, c.want, c.e)
		if c.at == 0 && p.Space.Bytes[0] != 144 {
			t.Errorf("the byte at 0 is not restored: %d", p.Space.Bytes[0])
		}
	}
	// A breakpoint of the program stays when the one over it is removed.
	p := makes(t, "Remove", given{P: patchedAt(bare(), 10), At: 10}, "", api.OK)
	if !equal(p.Space, bare()) {
		t.Errorf("Remove of a breakpoint over one of the program: %s", showSpace(p.Space))
	}
	makes(t, "Remove", given{}, "", api.ErrNone)
}

// P7.1: Apply stores data where cpu.Apply does, and has its error where it does not, as for each store onto a breakpoint.
func TestApply(t *testing.T) {
	p := base()
	eight := []byte{1, 2, 3, 4, 204, 6, 7, 8}
	for _, c := range []struct {
		effect api.Effect
		ok     bool
	}{
		{api.Effect{}, true}, {api.Effect{Trap: api.Trap{Kind: api.TrSys, N: 3}, Regs: api.Regs{Pc: 5}}, true}, {api.Effect{Trap: api.Trap{Kind: 99}, Insn: api.Insn{Op: -1}}, true}, {api.Effect{Data: []byte{}}, true},
		{api.Effect{At: dataAt, Data: eight}, true}, {api.Effect{At: fixedAt - 8, Data: eight}, true}, {api.Effect{At: fixedAt - 1, Data: []byte{9}}, true},
		{api.Effect{At: fixedAt - 7, Data: eight}, false}, {api.Effect{At: fixedAt, Data: []byte{9}}, false}, {api.Effect{At: noneAt, Data: []byte{9}}, false}, {api.Effect{At: spaceTo, Data: []byte{9}}, false}, {api.Effect{At: -1, Data: []byte{9}}, false}, {api.Effect{At: math.MaxInt64, Data: eight}, false},
		// Onto breakpoints, onto other code, and onto code and data.
		{api.Effect{At: 0, Data: []byte{204}}, false}, {api.Effect{At: 0, Data: []byte{144}}, false}, {api.Effect{At: 383, Data: []byte{129}}, false}, {api.Effect{At: 3, Data: []byte{153}}, false}, {api.Effect{At: 126, Data: eight}, false}, {api.Effect{At: 127, Data: eight}, false},
		{api.Effect{At: dataAt, Data: make([]byte, 9)}, false}, {api.Effect{At: dataAt}, false}, {api.Effect{At: -1}, false}, {api.Effect{At: dataAt, Data: eight, Trap: api.Trap{Kind: api.TrSys}}, false}, {api.Effect{At: dataAt, Data: eight, Trap: api.Trap{Kind: -1}}, false},
	} {
		want, e := theBase, api.OK
		if !c.ok {
			want, e = "", api.ErrEffect
		}
		out := makes(t, "Apply", given{P: p, Effect: c.effect}, want, e)
		if c.ok {
			stored := clone(p.Space)
			copy(stored.Bytes[c.effect.At:], c.effect.Data)
			if !equal(out.Space, stored) {
				t.Errorf("Apply of %v: %v", c.effect, out.Space.Bytes[dataAt:fixedAt])
			}
		}
	}
}

// P7.1: a patched page that may be written is none of a valid patched space, so that nothing can be stored onto it.
func TestApplyOntoWritable(t *testing.T) {
	p := base()
	p.Space.Perm[0] = api.PmRead + api.PmWrite
	for _, at := range []int64{0, 3, 10, dataAt} {
		makes(t, "Apply", given{P: p, Effect: api.Effect{At: at, Data: []byte{204}}}, "", api.ErrPatch)
	}
	// Without a breakpoint in it, it is written.
	p = patchedAt(bare(), 126)
	p.Space.Perm[0] = api.PmRead + api.PmWrite
	out := makes(t, "Apply", given{P: p, Effect: api.Effect{At: 0, Data: []byte{204}}}, "126:130x1", api.OK)
	if out.Space.Bytes[0] != 204 {
		t.Error("nothing is stored")
	}
}

// P7.1: Rebase to spaces of other bytes, permissions and sizes, with instructions at each breakpoint.
func TestRebase(t *testing.T) {
	other := func(make func(s *api.Space)) api.Space {
		s := bare()
		make(&s)
		return s
	}
	for _, c := range []struct {
		name, want string
		space      api.Space
	}{
		{"the clean space", theBase, bare()}, {"breakpoints everywhere", "0:204x1 10:204x2 12:204x1000 62:204x999 126:204x1 383:204x1", base().Space},
		{"nothing but InNop", "0:129x1 10:129x2 12:129x1000 62:129x999 126:129x1 383:129x1", spaceOf(4, 4, 4, 4, 4, 4)},
		{"other instructions", "0:153x1 10:204x2 12:132x1000 62:132x999 126:157x1 383:157x1", other(func(s *api.Space) {
			*s = with(with(with(with(*s, 0, "jump .-8192"), 12, "lit r0, 1"), 126, "ret"), 383, "ret")
		})},
		{"a larger space", theBase, other(func(s *api.Space) { s.Perm, s.Bytes = append(s.Perm, 4), append(s.Bytes, make([]byte, 64)...) })},
		{"other permissions of data", theBase, other(func(s *api.Space) { s.Perm[2], s.Perm[3], s.Perm[4] = 0, 3, 1 })},
		{"other data", theBase, other(func(s *api.Space) { s.Bytes[dataAt], s.Bytes[noneAt] = 204, 9 })},
		{"other code between the breakpoints", theBase, other(func(s *api.Space) { s.Bytes[3], s.Bytes[4] = 0, 204 })},
	} {
		p := makes(t, "Rebase", given{P: base(), Space: c.space}, c.want, api.OK)
		if clean, ok := modelClean(p); !ok || !equal(clean, c.space) {
			t.Errorf("Rebase to %s: %s", c.name, showSpace(p.Space))
		}
	}
	makes(t, "Rebase", given{P: patchedAt(bare(), 0), Space: with(spaceOf(4), 0, "lit r0, 1")}, "0:132x1", api.OK)
	makes(t, "Rebase", given{P: api.Patched{Space: bare()}, Space: spaceOf(3)}, "", api.OK)
	makes(t, "Rebase", given{P: api.Patched{Space: bare()}}, "", api.OK)
	makes(t, "Rebase", given{Space: bare()}, "", api.OK)
}

// P7.1: Rebase to spaces without an instruction at a breakpoint, and to invalid ones, also to such ones without instructions.
func TestRebaseRefuses(t *testing.T) {
	for _, c := range []struct {
		name string
		make func(s *api.Space)
		e    api.Errno
	}{
		{"a smaller space", func(s *api.Space) { s.Perm, s.Bytes = s.Perm[:5], s.Bytes[:lastAt] }, api.ErrCode}, {"no pages", func(s *api.Space) { *s = api.Space{} }, api.ErrCode}, {"no code", func(s *api.Space) { *s = spaceOf(3, 3, 3, 3, 3, 3) }, api.ErrCode},
		{"no instruction at 0", func(s *api.Space) { s.Bytes[0] = 0 }, api.ErrCode}, {"no instruction at 383", func(s *api.Space) { s.Bytes[383] = 128 }, api.ErrCode}, {"no instruction at 12", func(s *api.Space) { s.Bytes[12] = 127 }, api.ErrCode},
		{"another second byte", func(s *api.Space) { s.Bytes[1] = 204 }, api.ErrCode}, {"another last byte", func(s *api.Space) { s.Bytes[23] = 129 }, api.ErrCode}, {"an instruction that is not complete", func(s *api.Space) { s.Bytes[383] = 130 }, api.ErrCode},
		{"a page that may be read", func(s *api.Space) { s.Perm[5] = 1 }, api.ErrCode}, {"a page that may be written", func(s *api.Space) { s.Perm[0] = 3 }, api.ErrCode}, {"a page without permissions", func(s *api.Space) { s.Perm[1] = 0 }, api.ErrCode},
		{"permission 2", func(s *api.Space) { s.Perm[2] = 2 }, api.ErrSpace}, {"a byte more", func(s *api.Space) { s.Bytes = append(s.Bytes, 0) }, api.ErrSpace}, {"a byte less", func(s *api.Space) { s.Bytes = s.Bytes[:383] }, api.ErrSpace}, {"33 pages", func(s *api.Space) { *s = spaceOf(make([]int, 33)...) }, api.ErrSpace},
		{"permission 2 and no instruction", func(s *api.Space) { s.Perm[2], s.Bytes[0] = 2, 0 }, api.ErrSpace}, {"permission 5 of the code", func(s *api.Space) { s.Perm[0] = 5 }, api.ErrSpace}, {"no bytes", func(s *api.Space) { s.Bytes = nil }, api.ErrSpace},
	} {
		s := bare()
		c.make(&s)
		makes(t, "Rebase", given{P: base(), Space: s}, "", c.e)
	}
	makes(t, "Rebase", given{Space: api.Space{Perm: []int{2}}}, "", api.ErrSpace)
	makes(t, "Rebase", given{P: changed(under(0, 0)), Space: api.Space{Perm: []int{2}}}, "", api.ErrPatch)
}

// P1: results share no memory with arguments, nor with each other, and arguments stay as they are, also the room behind their lists: each function that returns a patched space or a space, where it returns one.
func TestMemory(t *testing.T) {
	p := base()
	for _, c := range append(changes(), looks()...) {
		for _, g := range []given{
			{P: p, At: 0, Space: bare()}, {P: p, At: 10, Space: bare()}, {P: p, At: 10, Space: spaceOf(4, 4, 4, 4, 4, 4, 4)},
			{P: p, At: 383, Regs: api.Regs{R: usual, Pc: 3}, Space: bare(), Effect: api.Effect{At: dataAt, Data: []byte{5, 6}}},
			{P: full(), At: 64, Space: spaceOf(4, 4)}, {P: patchedAt(spaceOf(4), 5), At: 5, Space: spaceOf(4)},
		} {
			if out := c.compare(t, g); out.Err != api.OK && c.name != "Original" {
				t.Errorf("%s at %d: error %d", c.name, g.At, out.Err)
			}
		}
	}
	// What a pushing instruction stores is new memory, too.
	s := with(bare(), 0, "push r1")
	for _, q := range []api.Patched{{Space: s}, patchedAt(s, 0)} {
		if out := looks()[3].compare(t, given{P: q, Regs: api.Regs{R: usual}}); len(out.Effect.Data) != 8 {
			t.Errorf("Step: %s", out.show())
		}
	}
}
