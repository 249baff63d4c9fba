package patch

import (
	"tapline/api"
	"tapline/cpu"
	"tapline/insn"
)

// displaced returns the instruction that can be executed at one address in the place of the well-formed instruction x at another address, and how.
func displaced(x api.Insn, from, to int64) (api.Insn, int) {
	switch x.Op {
	case api.InBeq, api.InBne, api.InBlt, api.InBge, api.InJump, api.InLea:
		fixed := x
		fixed.Imm += from - to
		if insn.Check(fixed) == api.OK && (fixed.Imm != 0 || x.Op == api.InLea) {
			return fixed, api.PtFix
		}
		// The operand does not reach the target from there, or Pc would not tell the target from the byte behind the slot.
		fallthrough
	case api.InCall, api.InCallR, api.InSys, api.InBreak:
		return x, api.PtEmulate
	}
	return x, api.PtCopy
}

// step returns the effect of the instruction that a thread executes, and how; s is the space with its breakpoints.
func (w *work) step(s api.Space, r api.Regs, slot int64) (api.Effect, int) {
	here := site{r.Pc}
	if _, is := w.place(here); !is {
		out, _ := cpu.Step(s, r)
		return out, api.PtNone
	}
	x, n := here.instruction(w.clean, api.ErrCode)
	d, mode := displaced(x, r.Pc, slot)
	if mode == api.PtEmulate {
		out, _ := cpu.Exec(x, s, r)
		return out, mode
	}
	there := r
	there.Pc = slot
	out, _ := cpu.Exec(d, s, there)
	out.Insn = x
	out.Regs.Pc = resumeAt(out, r.Pc, slot, int64(n))
	return out, mode
}

// resumeAt returns the address at which a thread goes on whose instruction of n bytes at `at` was executed in a slot.
func resumeAt(out api.Effect, at, slot, n int64) int64 {
	switch {
	case out.Trap.Kind != api.TrNone:
		return at
	case out.Insn.Op == api.InJumpR, out.Insn.Op == api.InRet:
		// Their target is told by the program alone, even if it is the address behind the slot.
		return out.Regs.Pc
	case out.Regs.Pc == slot+n:
		return at + n
	}
	return out.Regs.Pc
}
