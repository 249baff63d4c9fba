package kernel

import (
	"tapline/api"
	"tapline/cpu"
	"tapline/mem"
	"tapline/sched"
)

const (
	refused      = -1  // is the result of a call or a request that is not permitted
	killedByTrap = 128 // and the kind of the trap are the status of a process that a trap kills
)

// effectOf returns the effect of the instruction that a thread executes.
type effectOf func(s api.Space, r api.Regs) (api.Effect, api.Errno)

// transit makes a transition, but for its clock.
func (w *work) transit(p api.Pick, effect effectOf) {
	demand(isPick(w.Kern, p), api.ErrPick)
	clock := w.Clocks[p.Cpu]
	demand(clock.Now+clock.Rate <= api.MaxTime, api.ErrLong)
	w.cpu, w.now = p.Cpu, clock.Now
	switch p.Kind {
	case api.PkStep:
		w.step(effect)
	case api.PkTimer:
		w.tick()
	case api.PkDisk:
		w.serve()
	}
}

// step dispatches a thread, or executes an instruction of the one that runs.
func (w *work) step(effect effectOf) {
	w.steal()
	if sched.Due(w.Sched, w.cpu) {
		w.dispatch()
		leave()
	}
	q := w.Sched.Cpus[w.cpu]
	if q.Run == nobody {
		leave()
	}
	if q.Left == 0 {
		// No switch is due: this begins a time slice.
		w.Sched, _, _ = sched.Switch(w.Sched, w.cpu)
	}
	w.execute(q.Run, effect)
}

// steal takes a thread from another processor, if this one has none.
func (w *work) steal() {
	queues, tid, _ := sched.Steal(w.Sched, w.cpu)
	w.Sched = queues
	if tid != nobody {
		w.tellReady(tid)
	}
}

// dispatch makes a switch that is due.
func (w *work) dispatch() {
	ran := w.Sched.Cpus[w.cpu].Run
	queues, runs, _ := sched.Switch(w.Sched, w.cpu)
	w.Sched = queues
	if ran != nobody {
		w.tell(api.EvOff, ran, api.StReady)
		w.tellReady(ran)
	}
	w.tell(api.EvOn, runs, int64(w.slot(runs).Pri))
}

// execute executes an instruction of a thread that runs.
func (w *work) execute(tid int, effect effectOf) {
	t, space := &w.Threads[tid], w.space(tid)
	x, e := effect(*space, t.Regs)
	demand(e == api.OK, e)
	at, trap := t.Regs.Pc, x.Trap
	if trap.Kind != api.TrNone && trap.Kind != api.TrSys {
		w.tellAt(at, api.EvFault, tid, int64(trap.Kind), int64(trap.Fault.Kind), trap.Fault.At)
		w.kill(t.Pid, killedByTrap+int64(trap.Kind))
		leave()
	}
	w.tellAt(at, api.EvInsn, tid, int64(x.Insn.Op))
	*space, _ = cpu.Apply(*space, x)
	t.Regs = x.Regs
	if trap.Kind == api.TrSys {
		w.enter(tid, trap.N)
	}
}

// tick makes a timer interrupt.
func (w *work) tick() {
	w.tell(api.EvTick, w.Sched.Cpus[w.cpu].Run)
	w.Sched, _, _ = sched.Tick(w.Sched, w.cpu)
}

// serve does the first request of the device.
func (w *work) serve() {
	if len(w.Disk.Queue) == 0 {
		leave()
	}
	r := w.Disk.Queue[0]
	w.Disk.Queue = w.Disk.Queue[1:]
	result := w.transfer(r)
	w.tell(api.EvDone, r.Tid, int64(r.Block), flag(r.Write))
	w.resume(r.Tid, result)
}

// transfer moves the bytes of a request, and returns its result.
func (w *work) transfer(r api.Request) int64 {
	space, block := w.space(r.Tid), w.Disk.Blocks[r.Block]
	if !transferable(*space, r.At, r.Write) {
		return refused
	}
	if r.Write {
		b, _, _ := mem.Peek(*space, r.At, api.BlockSize)
		copy(block, b)
	} else {
		*space, _, _ = mem.Poke(*space, r.At, block)
	}
	return 0
}

// transferable reports whether a block may be written from an address, or read into it.
func transferable(s api.Space, at int64, write bool) bool {
	perm := api.PmWrite
	if write {
		perm = api.PmRead
	}
	return permits(s, at, api.BlockSize, perm)
}

// flag returns 1 for true, as events have it.
func flag(is bool) int64 {
	if is {
		return 1
	}
	return 0
}
