package kernel

import (
	"iter"
	"slices"

	"tapline/api"
	"tapline/sched"
)

const (
	nobody = -1 // stands where there is no thread
	noCall = -1 // is the Sys of a thread that waits in no system call
)

// wait is why a thread waits.
type wait struct {
	why     int
	channel int64
	call    int
}

// awake is the wait of a thread that does not wait.
func awake() wait {
	return wait{why: api.WtNone, call: noCall}
}

// having yields the threads of k of which something holds, by increasing numbers.
func having(k api.Kern, holds func(tid int) bool) iter.Seq[int] {
	return func(yield func(int) bool) {
		for tid := range k.Threads {
			if holds(tid) && !yield(tid) {
				return
			}
		}
	}
}

// living yields the threads of a process that have not ended in k.
func living(k api.Kern, pid int) iter.Seq[int] {
	return having(k, func(tid int) bool {
		return k.Threads[tid].Pid == pid && k.Sched.Threads[tid].State != api.StDead
	})
}

// lives reports whether a process has a thread that has not ended.
func lives(k api.Kern, pid int) bool {
	for range living(k, pid) {
		return true
	}
	return false
}

// begin adds a thread to k, and returns the error of the scheduler if this cannot be done.
func begin(k *api.Kern, pid int, regs api.Regs, pri, cpu int) api.Errno {
	queues, _, e := sched.Add(k.Sched, pri, cpu)
	if e != api.OK {
		return e
	}
	k.Sched = queues
	k.Threads = append(k.Threads, api.Thread{Pid: pid, Regs: regs, Sys: noCall})
	return api.OK
}

// become makes a thread wait, or be awake.
func (w *work) become(tid int, how wait) {
	t := &w.Threads[tid]
	t.Wait, t.Chan, t.Sys = how.why, how.channel, how.call
}

// block takes a thread off its processor, or out of its queue, until what it waits for happens.
func (w *work) block(tid int, how wait) {
	w.become(tid, how)
	w.Sched, _ = sched.Block(w.Sched, tid)
}

// resume makes a thread that waits in a system call ready, with the result of the call.
func (w *work) resume(tid int, result int64) {
	number := w.Threads[tid].Sys
	w.become(tid, awake())
	w.Sched, _, _ = sched.Wake(w.Sched, tid)
	w.tellReady(tid)
	w.giveBack(tid, number, result)
}

// giveBack ends a system call of a thread.
func (w *work) giveBack(tid, number int, result int64) {
	w.Threads[tid].Regs.R[0] = result
	w.tell(api.EvReturn, tid, int64(number), result)
}

// kill ends the threads of a process that is not dead, and so the process.
func (w *work) kill(pid int, status int64) {
	for tid := range living(w.Kern, pid) {
		w.end(tid, status)
	}
}

// end ends a thread, and, if it is the last one, its process.
func (w *work) end(tid int, status int64) {
	w.tell(api.EvExit, tid, status)
	if w.slot(tid).State == api.StRun {
		w.tell(api.EvOff, tid, api.StDead)
	}
	w.Sched, _ = sched.End(w.Sched, tid)
	w.become(tid, awake())
	w.Disk.Queue = slices.DeleteFunc(w.Disk.Queue, func(r api.Request) bool { return r.Tid == tid })
	pid := w.Threads[tid].Pid
	if !lives(w.Kern, pid) {
		w.Procs[pid].Dead, w.Procs[pid].Status = true, status
	}
}
