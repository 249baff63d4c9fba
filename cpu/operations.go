package cpu

import "tapline/api"

// word is the number of bytes of a register, and of an element of the stack.
const word = 8

// operation is what an instruction does behind its accesses to memory. An arithmetic one has compute, which returns what R[A] becomes of R[A] and R[B]; all others have run.
type operation struct {
	compute func(a, b int64) int64
	run     func(p *processor)
}

// operations returns the table of the operations, by their numbers.
func operations() []operation {
	return []operation{
		api.InNop:    {run: func(p *processor) {}},
		api.InMove:   {run: func(p *processor) { p.set(p.b) }},
		api.InSet:    {run: constant},
		api.InLit:    {run: constant},
		api.InAdd:    {compute: func(a, b int64) int64 { return a + b }},
		api.InSub:    {compute: func(a, b int64) int64 { return a - b }},
		api.InMul:    {compute: func(a, b int64) int64 { return a * b }},
		api.InDiv:    {compute: func(a, b int64) int64 { return a / divisor(b) }},
		api.InMod:    {compute: func(a, b int64) int64 { return a % divisor(b) }},
		api.InAnd:    {compute: func(a, b int64) int64 { return a & b }},
		api.InOr:     {compute: func(a, b int64) int64 { return a | b }},
		api.InXor:    {compute: func(a, b int64) int64 { return a ^ b }},
		api.InShl:    {compute: func(a, b int64) int64 { return a << distance(b) }},
		api.InShr:    {compute: func(a, b int64) int64 { return int64(uint64(a) >> distance(b)) }},
		api.InSar:    {compute: func(a, b int64) int64 { return a >> distance(b) }},
		api.InInc:    {run: func(p *processor) { p.set(p.a + p.insn.Imm) }},
		api.InLoad1:  {run: load},
		api.InLoad8:  {run: load},
		api.InStore1: {run: store},
		api.InStore8: {run: store},
		api.InBeq:    {run: branch},
		api.InBne:    {run: branch},
		api.InBlt:    {run: branch},
		api.InBge:    {run: branch},
		api.InJump:   {run: branch},
		api.InJumpR:  {run: func(p *processor) { p.Pc = p.a }},
		api.InCall:   {run: func(p *processor) { p.push(p.next); p.Pc = p.target() }},
		api.InCallR:  {run: func(p *processor) { p.push(p.next); p.Pc = p.a }},
		api.InRet:    {run: func(p *processor) { p.Pc = p.pop() }},
		api.InPush:   {run: func(p *processor) { p.push(p.a) }},
		api.InPop:    {run: func(p *processor) { p.set(p.pop()) }},
		api.InLea:    {run: func(p *processor) { p.set(p.target()) }},
		api.InSys:    {run: func(p *processor) { panic(trapped{Kind: api.TrSys, N: int(p.insn.Imm)}) }},
		api.InSwap:   {run: func(p *processor) { p.store(p.a); p.set(p.read) }},
		api.InBreak:  {run: func(p *processor) { panic(trapped{Kind: api.TrBreak}) }},
	}
}

func constant(p *processor) { p.set(p.insn.Imm) }

func load(p *processor) { p.set(p.read) }

func store(p *processor) { p.store(p.a) }

func branch(p *processor) {
	if taken(p.insn, p.Regs) {
		p.Pc = p.target()
	}
}

// divisor returns b, and traps if b is 0.
func divisor(b int64) int64 {
	if b == 0 {
		panic(trapped{Kind: api.TrDivide})
	}
	return b
}

// distance returns how far a shift by b goes: b modulo 64, from 0 to 63 for negative numbers too.
func distance(b int64) int64 {
	return b & 63
}

// taken reports whether a well-formed instruction jumps.
func taken(x api.Insn, r api.Regs) bool {
	a, b := r.R[x.A], r.R[x.B]
	holds, opposite := false, false
	switch x.Op {
	case api.InBne:
		opposite = true
		fallthrough
	case api.InBeq:
		holds = a == b
	case api.InBge:
		opposite = true
		fallthrough
	case api.InBlt:
		holds = a < b
	case api.InJump, api.InJumpR, api.InCall, api.InCallR, api.InRet:
		holds = true
	}
	return holds != opposite
}

// footprint returns the parts of memory that a well-formed instruction reads, and then those that it writes.
func footprint(x api.Insn, r api.Regs) []api.Access {
	at, top := r.R[x.B]+x.Imm, r.R[api.SP]
	switch x.Op {
	case api.InLoad1:
		return []api.Access{{At: at, Size: 1}}
	case api.InLoad8:
		return []api.Access{{At: at, Size: word}}
	case api.InStore1:
		return []api.Access{{At: at, Size: 1, Write: true}}
	case api.InStore8:
		return []api.Access{{At: at, Size: word, Write: true}}
	case api.InCall, api.InCallR, api.InPush:
		return []api.Access{{At: top - word, Size: word, Write: true}}
	case api.InRet, api.InPop:
		return []api.Access{{At: top, Size: word}}
	case api.InSwap:
		return []api.Access{{At: at, Size: word}, {At: at, Size: word, Write: true}}
	}
	return nil
}
