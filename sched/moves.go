package sched

import (
	"slices"

	"tapline/api"
)

// nobody stands where no thread does.
const nobody = -1

// board is a state while an operation changes it.
type board struct {
	*api.Sched
	moves
}

// moves are the ways in which a thread goes from where it stands to another place; they close over one state, and keep it valid.
type moves struct {
	toNowhere   func(thr, state int)
	toEnd       func(thr int) // of its priority
	toFront     func(thr int) // of its priority
	toRun       func(thr int) // with a new time slice, on its processor, where no thread runs
	toProcessor func(thr, cpu int)
}

// movesOf returns the moves of the threads of s.
func movesOf(s *api.Sched) moves {
	processorOf := func(thr int) *api.CpuQ { return &s.Cpus[s.Threads[thr].Cpu] }
	leave := func(thr, state int) {
		q := processorOf(thr)
		if q.Run == thr {
			q.Run, q.Left = nobody, 0
		}
		q.Ready = list[int](q.Ready).without(thr)
		s.Threads[thr].State = state
	}
	enter := func(thr int, ahead func(other int) bool) {
		leave(thr, api.StReady)
		q := processorOf(thr)
		q.Ready = list[int](q.Ready).insert(thr, ahead)
	}
	toEnd := func(thr int) {
		enter(thr, func(other int) bool { return s.Threads[other].Pri >= s.Threads[thr].Pri })
	}
	return moves{
		toNowhere: leave,
		toEnd:     toEnd,
		toFront: func(thr int) {
			enter(thr, func(other int) bool { return s.Threads[other].Pri > s.Threads[thr].Pri })
		},
		toRun: func(thr int) {
			leave(thr, api.StRun)
			q := processorOf(thr)
			q.Run, q.Left = thr, s.Quantum
		},
		toProcessor: func(thr, cpu int) {
			leave(thr, api.StReady)
			s.Threads[thr].Cpu = cpu
			toEnd(thr)
		},
	}
}

// left is the panic with which an operation leaves that cannot be executed.
type left api.Errno

// change returns the state behind an operation on a copy of s, or the error with which the operation leaves.
func change(s api.Sched, operation func(b board)) (out api.Sched, e api.Errno) {
	if e := Check(s); e != api.OK {
		return api.Sched{}, e
	}
	defer func() {
		if x := recover(); x != nil {
			out, e = api.Sched{}, api.Errno(x.(left)) // operations panic with nothing else
		}
	}()
	next := copied(s)
	operation(board{&next, movesOf(&next)})
	return next, api.OK
}

// copied returns s in new memory.
func copied(s api.Sched) api.Sched {
	out := api.Sched{Cpus: slices.Clone(s.Cpus), Threads: slices.Clone(s.Threads), Quantum: s.Quantum}
	for i := range out.Cpus {
		out.Cpus[i].Ready = slices.Clone(out.Cpus[i].Ready)
	}
	return out
}

// demand leaves with an error unless something holds.
func (b board) demand(holds bool, e api.Errno) {
	if !holds {
		panic(left(e))
	}
}

// processor returns a processor, and leaves if there is none.
func (b board) processor(cpu int) *api.CpuQ {
	b.demand(within(cpu, 0, len(b.Cpus)-1), api.ErrCpu)
	return &b.Cpus[cpu]
}

// thread returns a thread, and leaves unless there is one in a permitted state.
func (b board) thread(thr int, permitted ...int) *api.Slot {
	b.demand(within(thr, 0, len(b.Threads)-1), api.ErrThread)
	t := &b.Threads[thr]
	b.demand(slices.Contains(permitted, t.State), api.ErrThread)
	return t
}

// dispatch puts the running thread of a processor back into Ready, and the first one of Ready in its place.
func (b board) dispatch(q *api.CpuQ) {
	switch {
	case q.Run == nobody:
	case q.Left == 0:
		b.toEnd(q.Run)
	default:
		b.toFront(q.Run)
	}
	b.toRun(q.Ready[0])
}
