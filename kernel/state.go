package kernel

import (
	"slices"

	"tapline/api"
	"tapline/insn"
	"tapline/mem"
	"tapline/sched"
)

// within reports whether n is from least to most.
func within[N int | int64](n, least, most N) bool {
	return least <= n && n <= most
}

// has reports whether a list has an element of this index.
func has[E any](list []E, i int) bool {
	return within(i, 0, len(list)-1)
}

// isPick reports whether p is a pick of the valid state k.
func isPick(k api.Kern, p api.Pick) bool {
	return has(k.Clocks, p.Cpu) && within(p.Kind, api.PkStep, api.PkDisk)
}

// permits reports whether n bytes of a valid space may be accessed.
func permits(s api.Space, at int64, n, perm int) bool {
	fault, e := mem.Access(s, at, n, perm)
	return e == api.OK && fault.Kind == api.FtNone
}

// schedFits reports whether the scheduler's state is valid, and the threads and clocks of k are as many as it has threads and processors.
func schedFits(k api.Kern) bool {
	if sched.Check(k.Sched) != api.OK || len(k.Threads) != len(k.Sched.Threads) || len(k.Clocks) != len(k.Sched.Cpus) {
		return false
	}
	return !slices.ContainsFunc(k.Clocks, func(c api.Clock) bool {
		return !within(c.Rate, 1, api.MaxRate) || !within(c.Now, 0, api.MaxTime)
	})
}

// procsFit reports whether the processes are those of a valid state, as far as they do not depend on their threads.
func procsFit(procs []api.Proc) bool {
	if !within(len(procs), 1, api.MaxProcs) {
		return false
	}
	for _, p := range procs {
		if !isProcName(p.Name) || mem.Check(p.Space) != api.OK || !areNames(p.Syms) || !laid(p.Syms, int64(len(p.Space.Bytes))) {
			return false
		}
		if p.Status != 0 && !p.Dead {
			return false
		}
	}
	return true
}

// isProcName reports whether a process can have this name.
func isProcName(name string) bool {
	if !within(len(name), 1, api.MaxName) {
		return false
	}
	for i := range len(name) {
		if !within(int(name[i]), 33, 126) {
			return false
		}
	}
	return true
}

// areNames reports whether the names of at most MaxSyms symbols are names, all different: just these stand in a listing of no instructions.
func areNames(syms []api.Sym) bool {
	var names []api.Sym
	for _, s := range syms {
		names = append(names, api.Sym{Name: s.Name})
	}
	_, e := insn.Disassemble(nil, 0, names)
	return e == api.OK
}

// laid reports whether symbols stand one behind the other, each with at least one byte, between the address 0 and the address end.
func laid(syms []api.Sym, end int64) bool {
	for _, s := range slices.Backward(syms) {
		// In this order no sum can wrap around.
		if !within(s.At, 0, end) || !within(s.Size, 1, end-s.At) {
			return false
		}
		end = s.At
	}
	return true
}

// threadsFit reports whether the threads have processes, and wait for what their states in the scheduler say.
func threadsFit(k api.Kern) bool {
	for tid, t := range k.Threads {
		blocked := k.Sched.Threads[tid].State == api.StBlock
		if !has(k.Procs, t.Pid) || !waitFits(t, blocked) {
			return false
		}
	}
	return true
}

// waitFits reports whether a thread waits just if it is blocked, and as a thread of a valid state does.
func waitFits(t api.Thread, blocked bool) bool {
	switch t.Wait {
	case api.WtNone:
		return !blocked && t.Chan == 0 && t.Sys == noCall
	case api.WtSleep:
		return blocked && t.Sys == api.SysSleep
	case api.WtIo:
		return blocked && t.Chan == 0 && (t.Sys == api.SysRead || t.Sys == api.SysWrite)
	case api.WtStop:
		return blocked && t.Chan == 0 && t.Sys == noCall
	}
	return false
}

// diskFits reports whether the device's blocks are those of a valid state, and its requests those of the threads that wait for it.
func diskFits(k api.Kern) bool {
	if !within(len(k.Disk.Blocks), 1, api.MaxBlocks) {
		return false
	}
	if slices.ContainsFunc(k.Disk.Blocks, func(b []byte) bool { return len(b) != api.BlockSize }) {
		return false
	}
	var requested, waiting []int
	for _, r := range k.Disk.Queue {
		if !has(k.Threads, r.Tid) || !has(k.Disk.Blocks, r.Block) || r.Write != (k.Threads[r.Tid].Sys == api.SysWrite) {
			return false
		}
		requested = append(requested, r.Tid)
	}
	for tid, t := range k.Threads {
		if t.Wait == api.WtIo {
			waiting = append(waiting, tid)
		}
	}
	slices.Sort(requested)
	return slices.Equal(requested, waiting)
}

// deadFit reports whether just those processes are dead that have no living thread.
func deadFit(k api.Kern) bool {
	for pid, p := range k.Procs {
		if p.Dead == lives(k, pid) {
			return false
		}
	}
	return true
}

// copied returns k in new memory.
func copied(k api.Kern) api.Kern {
	out := api.Kern{
		Procs:   slices.Clone(k.Procs),
		Threads: slices.Clone(k.Threads),
		Clocks:  slices.Clone(k.Clocks),
		Sched:   api.Sched{Cpus: slices.Clone(k.Sched.Cpus), Threads: slices.Clone(k.Sched.Threads), Quantum: k.Sched.Quantum},
		Disk:    api.Disk{Blocks: slices.Clone(k.Disk.Blocks), Queue: slices.Clone(k.Disk.Queue)},
	}
	for i, p := range out.Procs {
		out.Procs[i].Space = copiedSpace(p.Space)
		out.Procs[i].Syms = slices.Clone(p.Syms)
	}
	for i, q := range out.Sched.Cpus {
		out.Sched.Cpus[i].Ready = slices.Clone(q.Ready)
	}
	for i, b := range out.Disk.Blocks {
		out.Disk.Blocks[i] = slices.Clone(b)
	}
	return out
}

// copiedSpace returns s in new memory.
func copiedSpace(s api.Space) api.Space {
	return api.Space{Perm: slices.Clone(s.Perm), Bytes: slices.Clone(s.Bytes)}
}
