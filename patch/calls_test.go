package patch_test

import (
	"fmt"
	"testing"

	"tapline/api"
	"tapline/cpu"
	"tapline/patch"
)

// given are arguments; each function takes some of them.
type given struct {
	P, Q     api.Patched
	At, Slot int64
	Regs     api.Regs
	Insn     api.Insn
	Effect   api.Effect
	Space    api.Space
}

// result are results; each function has some of them.
type result struct {
	P      api.Patched
	Space  api.Space
	Effect api.Effect
	Insn   api.Insn
	N      int
	Is     bool
	Err    api.Errno
}

// call is a function, and what the model says of it.
type call struct {
	name  string
	make  func(g given) result
	model func(g given) result
}

// valid returns what f returns if the patched space is valid, otherwise ErrPatch alone.
func valid(f func(g given, clean api.Space) result) func(g given) result {
	return func(g given) result {
		clean, ok := modelClean(g.P)
		if !ok {
			return result{Err: api.ErrPatch}
		}
		return f(g, clean)
	}
}

// changes are the functions that return a patched space.
func changes() []call {
	return []call{
		{"Install", func(g given) (r result) {
			r.P, r.Err = patch.Install(g.P, g.At)
			return
		}, valid(func(g given, _ api.Space) (r result) {
			r.P, r.Err = modelInstall(g.P, g.At)
			return
		})},
		{"Remove", func(g given) (r result) {
			r.P, r.Err = patch.Remove(g.P, g.At)
			return
		}, valid(func(g given, _ api.Space) (r result) {
			r.P, r.Err = modelRemove(g.P, g.At)
			return
		})},
		{"Apply", func(g given) (r result) {
			r.P, r.Err = patch.Apply(g.P, g.Effect)
			return
		}, valid(func(g given, _ api.Space) (r result) {
			s, e := cpu.Apply(g.P.Space, g.Effect)
			if e != api.OK {
				return result{Err: e}
			}
			return result{P: api.Patched{Space: s, L: clone(g.P.L)}}
		})},
		{"Rebase", func(g given) (r result) {
			r.P, r.Err = patch.Rebase(g.P, g.Space)
			return
		}, valid(func(g given, _ api.Space) (r result) {
			r.P, r.Err = modelRebase(g.P, g.Space)
			return
		})},
	}
}

// looks are the functions that return something else of a patched space.
func looks() []call {
	return []call{
		{"Check", func(g given) result { return result{Err: patch.Check(g.P)} }, valid(func(given, api.Space) result { return result{} })},
		{"Clean", func(g given) (r result) {
			r.Space, r.Err = patch.Clean(g.P)
			return
		}, valid(func(_ given, clean api.Space) result { return result{Space: clean} })},
		{"Original", func(g given) (r result) {
			r.Insn, r.N, r.Err = patch.Original(g.P, g.At)
			return
		}, valid(func(g given, clean api.Space) (r result) {
			if indexOf(g.P, g.At) < 0 {
				return result{Err: api.ErrNone}
			}
			r.Insn, r.N, _ = stands(clean, g.At)
			return
		})},
		{"Step", func(g given) (r result) {
			r.Effect, r.N, r.Err = patch.Step(g.P, g.Regs, g.Slot)
			return
		}, valid(func(g given, _ api.Space) (r result) {
			r.Effect, r.N = modelStep(g.P, g.Regs, g.Slot)
			return
		})},
	}
}

// others are the functions without an error of the patched space.
func others() []call {
	return []call{
		{"Find", func(g given) (r result) {
			r.N, r.Is = patch.Find(g.P, g.At)
			return
		}, func(g given) (r result) {
			_, ok := modelClean(g.P)
			if i := indexOf(g.P, g.At); ok && i >= 0 {
				r.N, r.Is = i, true
			}
			return
		}},
		{"Displace", func(g given) (r result) {
			r.Insn, r.N, r.Err = patch.Displace(g.Insn, g.At, g.Slot)
			return
		}, func(g given) (r result) {
			r.Insn, r.N, r.Err = modelDisplace(g.Insn, g.At, g.Slot)
			return
		}},
		{"Same", func(g given) result { return result{Is: patch.Same(g.P, g.Q)} }, func(g given) result { return result{Is: equal(g.P, g.Q)} }},
	}
}

// allCalls are all functions.
func allCalls() []call {
	return append(append(changes(), looks()...), others()...)
}

// compare makes a call with arguments that have spare room, and expects what the model says, in new memory, and the arguments as they were.
func (c call) compare(t *testing.T, g given) result {
	t.Helper()
	args := roomy(g)
	before := memory(args)
	out := c.make(args)
	if want := c.model(g); !equal(out, want) {
		t.Fatalf("%s of %s\nis %s\nwant %s", c.name, g.show(), out.show(), want.show())
	}
	if !equal(memory(args), before) || !equal(args, g) {
		t.Fatalf("%s changes its arguments: %s", c.name, g.show())
	}
	if overlap(parts(out), parts(args)) || overlaps(parts(out)) {
		t.Fatalf("%s shares memory: %s", c.name, g.show())
	}
	return out
}

// compareAll makes each call.
func compareAll(t *testing.T, g given) {
	t.Helper()
	for _, c := range allCalls() {
		c.compare(t, g)
	}
}

// showSpace writes a space: its permissions, and of the code pages the bytes.
func showSpace(s api.Space) string {
	out := fmt.Sprint("pages ", s.Perm, " bytes ", len(s.Bytes))
	for i, perm := range s.Perm {
		if perm == api.PmExec && 64*i+64 <= len(s.Bytes) {
			out += fmt.Sprintf("\n%d: %v", 64*i, s.Bytes[64*i:64*i+64])
		}
	}
	return out
}

func (g given) show() string {
	return fmt.Sprintf("at %d slot %d regs %v insn %v effect %v\npatches %v in %s\nspace %s", g.At, g.Slot, g.Regs, g.Insn, g.Effect, g.P.L, showSpace(g.P.Space), showSpace(g.Space))
}

func (r result) show() string {
	return fmt.Sprintf("error %d: %d %v insn %v effect %v\npatches %v in %s\nspace %s", r.Err, r.N, r.Is, r.Insn, r.Effect, r.P.L, showSpace(r.P.Space), showSpace(r.Space))
}
