package sched

import (
	"slices"

	"tapline/api"
)

// within reports whether n is from least to most.
func within(n, least, most int) bool {
	return least <= n && n <= most
}

// isPri reports whether n is a priority.
func isPri(n int) bool {
	return within(n, 0, api.MaxPri)
}

// bounded reports whether a state has as many processors and threads, and such a Quantum, as a valid one.
func bounded(s api.Sched) bool {
	return within(len(s.Cpus), 1, api.MaxCpus) && len(s.Threads) <= api.MaxThreads && within(s.Quantum, 1, api.MaxQuantum)
}

// threadsFit reports whether the threads are those of a valid state; one that runs has to be the Run of its processor.
func threadsFit(s api.Sched) bool {
	for thr, t := range s.Threads {
		if !isPri(t.Pri) || !within(t.Cpu, 0, len(s.Cpus)-1) || !within(t.State, api.StReady, api.StDead) {
			return false
		}
		if t.State == api.StRun && s.Cpus[t.Cpu].Run != thr {
			return false
		}
	}
	return true
}

// runFits reports whether Run and Left of a processor are those of a valid state.
func runFits(s api.Sched, cpu int) bool {
	q := s.Cpus[cpu]
	if q.Run == nobody {
		return q.Left == 0
	}
	return within(q.Run, 0, len(s.Threads)-1) && stands(s, q.Run, cpu, api.StRun) && within(q.Left, 0, s.Quantum)
}

// readyFits reports whether Ready of a processor has the threads that are ready there, each once, by decreasing priority.
func readyFits(s api.Sched, cpu int) bool {
	var ready []int
	for thr := range s.Threads {
		if stands(s, thr, cpu, api.StReady) {
			ready = append(ready, thr)
		}
	}
	queue := s.Cpus[cpu].Ready
	if !slices.Equal(slices.Sorted(slices.Values(queue)), ready) {
		return false
	}
	return slices.IsSortedFunc(queue, func(a, b int) int { return s.Threads[b].Pri - s.Threads[a].Pri })
}

// stands reports whether a thread has this processor and this State.
func stands(s api.Sched, thr, cpu, state int) bool {
	t := s.Threads[thr]
	return t.Cpu == cpu && t.State == state
}

// due reports whether a switch is due on a processor of a valid state.
func due(s api.Sched, cpu int) bool {
	q := s.Cpus[cpu]
	if len(q.Ready) == 0 {
		return false
	}
	if q.Run == nobody {
		return true
	}
	first, runs := s.Threads[q.Ready[0]].Pri, s.Threads[q.Run].Pri
	return first > runs || q.Left == 0 && first == runs
}

// threads returns how many threads run or are ready on a processor.
func threads(q api.CpuQ) int {
	if q.Run == nobody {
		return len(q.Ready)
	}
	return len(q.Ready) + 1
}

// fullest returns the first of the processors with the most threads.
func fullest(s api.Sched) api.CpuQ {
	return slices.MaxFunc(s.Cpus, func(a, b api.CpuQ) int { return threads(a) - threads(b) })
}
