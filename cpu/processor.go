package cpu

import (
	"tapline/api"
	"tapline/insn"
	"tapline/mem"
)

// processor is a processor at work on one instruction: its registers become those behind the instruction.
type processor struct {
	api.Regs
	insn  api.Insn
	next  int64
	a, b  int64      // R[A] and R[B] ahead of the instruction
	read  int64      // what the instruction reads from memory
	place api.Access // the part of memory that it writes
	data  []byte     // what it stores there
}

// trapped is the panic with which an instruction that traps leaves the processor.
type trapped api.Trap

// trapOf returns the trap with which work leaves the processor.
func trapOf(work func()) (trap api.Trap) {
	defer func() {
		if x := recover(); x != nil {
			trap = api.Trap(x.(trapped)) // work panics with nothing else
		}
	}()
	work()
	return api.Trap{}
}

// effectOf returns the effect of a well-formed instruction in a valid space.
func effectOf(x api.Insn, s api.Space, r api.Regs) api.Effect {
	length, _ := insn.Len(x)
	p := processor{Regs: r, insn: x, next: r.Pc + int64(length), a: r.R[x.A], b: r.R[x.B]}
	trap := trapOf(func() { p.execute(s) })
	switch trap.Kind {
	case api.TrNone:
		return api.Effect{Regs: p.Regs, At: p.place.At, Data: p.data, Insn: x}
	case api.TrSys:
		r.Pc = p.next
	}
	return api.Effect{Regs: r, Trap: trap, Insn: x}
}

// execute makes the accesses of the instruction, and then what its operation does.
func (p *processor) execute(s api.Space) {
	for _, part := range footprint(p.insn, p.Regs) {
		p.access(s, part)
	}
	p.Pc = p.next
	o := operations()[p.insn.Op]
	if o.compute != nil {
		p.set(o.compute(p.a, p.b))
		return
	}
	o.run(p)
}

// access reads a part of memory, or makes sure that it can be written.
func (p *processor) access(s api.Space, part api.Access) {
	var fault api.Fault
	if part.Write {
		p.place = part
		fault, _ = mem.Access(s, part.At, part.Size, api.PmWrite)
	} else {
		p.read, fault, _ = mem.Load(s, part.At, api.Int{Size: part.Size})
	}
	if fault.Kind != api.FtNone {
		panic(trapped{Kind: api.TrFault, Fault: fault})
	}
}

// set makes v the value of the register A.
func (p *processor) set(v int64) {
	p.R[p.insn.A] = v
}

// target returns the address to which a relative operand refers.
func (p *processor) target() int64 {
	return p.next + p.insn.Imm
}

// store stores the lowest bytes of v in the place that the instruction writes.
func (p *processor) store(v int64) {
	for i := range p.place.Size {
		p.data = append(p.data, byte(v>>(8*i)))
	}
}

// push stores v in the place that the instruction writes, on top of the stack.
func (p *processor) push(v int64) {
	p.store(v)
	p.R[api.SP] = p.place.At
}

// pop removes what the instruction has read from the top of the stack, and returns it.
func (p *processor) pop() int64 {
	p.R[api.SP] += word
	return p.read
}
