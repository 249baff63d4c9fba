package sched_test

import (
	"math"
	"slices"
	"testing"

	"tapline/api"
	"tapline/sched"
)

// base is a valid state with threads in each of the states, and with an idle processor that has a ready thread.
const base = "q3 | 5r0 5x0 2r0 5r0 7b0 0d1 4r1 4x2 | 1/2 0 3 2 | -1/0 6 | 7/0"

// P5.1: Check of valid states, at the limits of each field.
func TestCheckOfValidStates(t *testing.T) {
	for _, text := range []string{
		base,
		"q1 | | -1/0", "q20 | | -1/0 | -1/0 | -1/0 | -1/0",
		"q1 | 0r0 | -1/0 0", "q1 | 7r0 | -1/0 0", "q1 | 0x0 | 0/0", "q1 | 7x0 | 0/1", "q20 | 7x0 | 0/20", "q20 | 7x3 | -1/0 | -1/0 | -1/0 | 0/0",
		"q2 | 3b0 3d0 | -1/0", "q2 | 3b1 3d1 | -1/0 | -1/0", "q2 | 3x0 7r0 | 0/1 1", "q2 | 3x0 0r0 | 0/0 1",
		"q2 | 3r0 3r0 3r0 | -1/0 0 1 2", "q2 | 3r0 3r0 3r0 | -1/0 2 1 0", "q2 | 3r0 3r0 3r0 | -1/0 1 2 0",
		"q2 | 3r0 4r0 5r0 | -1/0 2 1 0", "q2 | 3r0 4r0 3r0 | -1/0 1 2 0", "q2 | 3r1 4r0 3r0 | -1/0 1 2 | -1/0 0",
		"q2 | 0r0 1r0 2r0 3r0 4r0 5r0 6r0 7r0 7r0 6r0 5r0 4r0 3r0 2r0 1r0 0r0 | -1/0 8 7 6 9 5 10 11 4 3 12 13 2 1 14 0 15",
	} {
		if e := sched.Check(state(text)); e != api.OK {
			t.Errorf("Check(%s) = %d", text, e)
		}
	}
}

// broken has states in which one condition of a valid one is broken.
var broken = []struct {
	condition, text string
}{
	{"no processor", "q3 |"}, {"no processor, but threads", "q3 | 3b0"}, {"five processors", "q3 | | -1/0 | -1/0 | -1/0 | -1/0 | -1/0"},
	{"17 threads", "q3 | 3b0 3b0 3b0 3b0 3b0 3b0 3b0 3b0 3b0 3b0 3b0 3b0 3b0 3b0 3b0 3b0 3b0 | -1/0"},
	{"17 threads, all ready", "q3 | 3r0 3r0 3r0 3r0 3r0 3r0 3r0 3r0 3r0 3r0 3r0 3r0 3r0 3r0 3r0 3r0 3r0 | -1/0 0 1 2 3 4 5 6 7 8 9 10 11 12 13 14 15 16"},
	{"Quantum 0", "q0 | | -1/0"}, {"Quantum 0, with threads", "q0 | 3r0 3x0 | 1/0 0"}, {"Quantum -1", "q-1 | | -1/0"}, {"Quantum 21", "q21 | | -1/0"},
	{"Pri -1", "q3 | -1b0 | -1/0"}, {"Pri 8", "q3 | 8b0 | -1/0"}, {"Pri 8 of a dead thread", "q3 | 8d0 | -1/0"}, {"Pri -1 of a ready thread", "q3 | -1r0 | -1/0 0"}, {"Pri 8 of a running thread", "q3 | 8x0 | 0/1"},
	{"Cpu -1", "q3 | 3b-1 | -1/0"}, {"Cpu 1 of one processor", "q3 | 3b1 | -1/0"}, {"Cpu 2 of two", "q3 | 3d2 | -1/0 | -1/0"}, {"Cpu 1 of a ready thread", "q3 | 3r1 | -1/0 0"}, {"Cpu 1 of a running thread", "q3 | 3x1 | 0/1"}, {"Cpu 9 of a ready thread", "q3 | 3r9 | -1/0"},
	{"Run is no thread", "q3 | 3b0 | 1/0"}, {"Run is -2", "q3 | 3b0 | -2/0"}, {"Run without threads", "q3 | | 0/0"},
	{"Run is blocked", "q3 | 3b0 | 0/1"}, {"Run has ended", "q3 | 3d0 | 0/1"}, {"Run is ready", "q3 | 3r0 | 0/1"}, {"Run is ready, and in Ready", "q3 | 3r0 | 0/1 0"},
	{"Run on two processors", "q3 | 3x0 | 0/1 | 0/1"}, {"Run elsewhere", "q3 | 3x0 | -1/0 | 0/1"},
	{"runs nowhere", "q3 | 3x0 | -1/0"}, {"another one runs", "q3 | 3x0 3x0 | 1/0"}, {"runs, but stands in Ready", "q3 | 3x0 | -1/0 0"}, {"runs, and stands in Ready", "q3 | 3x0 | 0/2 0"}, {"runs nowhere beside an idle processor", "q3 | 3x1 3x0 | 1/0 | -1/0"},
	{"Left of an idle processor", "q3 | | -1/1"}, {"Left -1 of an idle processor", "q3 | | -1/-1"}, {"Left -1", "q3 | 3x0 | 0/-1"}, {"Left 4 of 3", "q3 | 3x0 | 0/4"}, {"Left 2 of 1", "q1 | 3x0 | 0/2"}, {"Left of the second processor", "q3 | 3x0 | 0/3 | -1/3"},
	{"ready, but nowhere", "q3 | 3r0 | -1/0"}, {"ready, but elsewhere", "q3 | 3r0 | -1/0 | -1/0 0"}, {"ready here and elsewhere", "q3 | 3r0 | -1/0 0 | -1/0 0"}, {"one of two ready", "q3 | 3r0 3r0 | -1/0 1"},
	{"twice in Ready", "q3 | 3r0 | -1/0 0 0"}, {"twice in Ready in place of another one", "q3 | 3r0 3r0 | -1/0 1 1"}, {"twice in Ready, apart", "q3 | 3r0 3r0 3r0 | -1/0 1 0 1"},
	{"a blocked one in Ready", "q3 | 3b0 | -1/0 0"}, {"an ended one in Ready", "q3 | 3d0 | -1/0 0"}, {"a blocked one in place of a ready one", "q3 | 3r0 3b0 | -1/0 1"}, {"one of another processor in Ready", "q3 | 3r0 3r1 | -1/0 1 | -1/0 0"},
	{"no thread in Ready", "q3 | 3r0 | -1/0 0 1"}, {"-1 in Ready", "q3 | 3r0 | -1/0 0 -1"}, {"-1 alone in Ready", "q3 | | -1/0 -1"}, {"-1 in place of a ready one", "q3 | 3r0 | -1/0 -1"},
	{"increasing priorities", "q3 | 3r0 4r0 | -1/0 0 1"}, {"increasing priorities at the end", "q3 | 5r0 3r0 4r0 | -1/0 0 1 2"}, {"increasing priorities of the second processor", "q3 | 3r1 4r1 5r0 | -1/0 2 | -1/0 0 1"}, {"a greater priority among equal ones", "q3 | 3r0 3r0 4r0 3r0 | -1/0 0 2 1 3"},
}

// P5.1: Check of states in which one condition is broken by itself; every function with a state returns ErrSched, and Due false.
func TestCheckOfBrokenStates(t *testing.T) {
	states := map[string]api.Sched{
		"State 0": {Quantum: 3, Threads: []api.Slot{{}}, Cpus: []api.CpuQ{{Run: -1}}}, "State 5": {Quantum: 3, Threads: []api.Slot{{State: 5}}, Cpus: []api.CpuQ{{Run: -1}}},
		"State -1": {Quantum: 3, Threads: []api.Slot{{State: -1}}, Cpus: []api.CpuQ{{Run: -1}}}, "State 5 of Run": {Quantum: 3, Threads: []api.Slot{{State: 5}}, Cpus: []api.CpuQ{{Run: 0}}},
		"State 0 in Ready": {Quantum: 3, Threads: []api.Slot{{State: 0}}, Cpus: []api.CpuQ{{Run: -1, Ready: []int{0}}}},
		"zero value":       {},
		"extreme Quantum":  {Quantum: math.MinInt, Cpus: []api.CpuQ{{Run: -1}}}, "extreme Run": {Quantum: 3, Cpus: []api.CpuQ{{Run: math.MinInt}}}, "great Run": {Quantum: 3, Cpus: []api.CpuQ{{Run: math.MaxInt}}},
		"extreme Left": {Quantum: 3, Cpus: []api.CpuQ{{Run: -1, Left: math.MinInt}}}, "extreme Ready": {Quantum: 3, Cpus: []api.CpuQ{{Run: -1, Ready: []int{math.MaxInt}}}}, "least Ready": {Quantum: 3, Cpus: []api.CpuQ{{Run: -1, Ready: []int{math.MinInt}}}},
		"extreme Pri": {Quantum: 3, Threads: []api.Slot{{Pri: math.MaxInt, State: 1}, {Pri: math.MinInt, State: 1}}, Cpus: []api.CpuQ{{Run: -1, Ready: []int{0, 1}}}}, "extreme Cpu": {Quantum: 3, Threads: []api.Slot{{Cpu: math.MinInt, State: 2}}, Cpus: []api.CpuQ{{Run: 0}}},
		"long Cpus": {Quantum: 3, Cpus: make([]api.CpuQ, 1000000)}, "long Threads": {Quantum: 3, Threads: make([]api.Slot, 1000000), Cpus: []api.CpuQ{{Run: -1}}}, "long Ready": {Quantum: 3, Threads: []api.Slot{{State: 1}}, Cpus: []api.CpuQ{{Run: -1, Ready: make([]int, 1000000)}}},
	}
	for _, c := range broken {
		states[c.condition] = state(c.text)
	}
	for condition, s := range states {
		if e := sched.Check(s); e != api.ErrSched {
			t.Errorf("%s: Check = %d", condition, e)
		}
		for _, cpu := range []int{0, 1, -1, 9} {
			if sched.Due(s, cpu) {
				t.Errorf("%s: Due(%d)", condition, cpu)
			}
			for _, name := range opNames {
				if out := call(s, op{name, cpu, cpu}); out.err != api.ErrSched || !isZero(out) {
					t.Errorf("%s: %s(%d) = %v; want ErrSched", condition, name, cpu, out)
				}
			}
		}
	}
}

// P5.1: Check of random states, valid ones and such that mostly are not.
func TestCheckOfRandomStates(t *testing.T) {
	m := newMaker()
	count := map[bool]int{}
	for range 40000 {
		s := m.broken()
		valid := modelValid(s)
		count[valid]++
		if e := sched.Check(s); (e == api.OK) != valid || !valid && e != api.ErrSched {
			t.Errorf("Check(%s) = %d", show(s), e)
		}
		if s := m.valid(); sched.Check(s) != api.OK {
			t.Errorf("Check(%s) = %d", show(s), sched.Check(s))
		}
	}
	if count[true] < 2000 || count[false] < 20000 {
		t.Errorf("too few cases: %v", count)
	}
}

// P5.1: a nil list is an empty one.
func TestNilAndEmptyLists(t *testing.T) {
	empty := api.Sched{Quantum: 2, Threads: []api.Slot{}, Cpus: []api.CpuQ{{Run: -1, Ready: []int{}}, {Run: -1, Ready: []int{}}}}
	none := api.Sched{Quantum: 2, Cpus: []api.CpuQ{{Run: -1}, {Run: -1}}}
	if sched.Check(empty) != api.OK || sched.Check(none) != api.OK || !sched.Same(empty, none) || !sched.Same(none, empty) {
		t.Error("states with empty lists and with nil differ")
	}
	if !sched.Same(api.Sched{}, api.Sched{Cpus: []api.CpuQ{}, Threads: []api.Slot{}}) {
		t.Error("zero values with empty lists and with nil differ")
	}
	for _, o := range []string{"Add 3 1", "Switch 0", "Tick 1", "Steal 0"} {
		a, b := must(t, empty, opOf(o)), must(t, none, opOf(o))
		if !sameOutcome(a, b) || !sched.Same(a.state, b.state) {
			t.Errorf("%s: %v with empty lists, %v with nil", o, a, b)
		}
	}
}

// P5.1: New for all numbers of processors and all quanta, and beyond them.
func TestNew(t *testing.T) {
	for _, cpus := range []int{math.MinInt, -4, -1, 0, 1, 2, 3, 4, 5, 6, 1 << 32, math.MaxInt} {
		for _, quantum := range []int{math.MinInt, -20, -1, 0, 1, 2, 3, 10, 19, 20, 21, 1 << 32, math.MaxInt} {
			s, e := sched.New(cpus, quantum)
			if cpus < 1 || cpus > 4 || quantum < 1 || quantum > 20 {
				if e != api.ErrArg || !isZero(outcome{state: s}) {
					t.Errorf("New(%d, %d) = %s, %d", cpus, quantum, show(s), e)
				}
				continue
			}
			want := api.Sched{Cpus: []api.CpuQ{{Run: -1}, {Run: -1}, {Run: -1}, {Run: -1}}[:cpus], Quantum: quantum}
			if e != api.OK || !equal(s, want) || sched.Check(s) != api.OK {
				t.Errorf("New(%d, %d) = %s, %d", cpus, quantum, show(s), e)
			}
		}
	}
}

// differences are states that differ from the base in one field alone.
func differences() map[string]api.Sched {
	out := map[string]api.Sched{}
	for name, change := range map[string]func(s *api.Sched){
		"Quantum": func(s *api.Sched) { s.Quantum++ },
		"Pri":     func(s *api.Sched) { s.Threads[0].Pri-- }, "Pri of the last": func(s *api.Sched) { s.Threads[7].Pri++ },
		"Cpu": func(s *api.Sched) { s.Threads[0].Cpu = 1 }, "Cpu of the last": func(s *api.Sched) { s.Threads[7].Cpu = 9 },
		"State": func(s *api.Sched) { s.Threads[4].State = api.StDead }, "State of the last": func(s *api.Sched) { s.Threads[7].State = 0 },
		"fewer threads": func(s *api.Sched) { s.Threads = s.Threads[:7] }, "more threads": func(s *api.Sched) { s.Threads = append(s.Threads, api.Slot{}) }, "no threads": func(s *api.Sched) { s.Threads = nil },
		"Run": func(s *api.Sched) { s.Cpus[0].Run = 0 }, "Run of the last": func(s *api.Sched) { s.Cpus[2].Run = -1 },
		"Left": func(s *api.Sched) { s.Cpus[0].Left = 1 }, "Left of the last": func(s *api.Sched) { s.Cpus[2].Left = 1 },
		"order": func(s *api.Sched) { s.Cpus[0].Ready = []int{3, 0, 2} }, "a thread in Ready": func(s *api.Sched) { s.Cpus[0].Ready[2] = 5 }, "less in Ready": func(s *api.Sched) { s.Cpus[0].Ready = []int{0, 3} }, "more in Ready": func(s *api.Sched) { s.Cpus[2].Ready = []int{0} }, "nothing in Ready": func(s *api.Sched) { s.Cpus[1].Ready = nil },
		"fewer processors": func(s *api.Sched) { s.Cpus = s.Cpus[:2] }, "more processors": func(s *api.Sched) { s.Cpus = append(s.Cpus, api.CpuQ{}) }, "no processors": func(s *api.Sched) { s.Cpus = []api.CpuQ{} },
		"order of processors": func(s *api.Sched) { slices.Reverse(s.Cpus) },
	} {
		s := state(base)
		change(&s)
		out[name] = s
	}
	return out
}

// P5.1: Same of states that differ in one field alone, valid or not.
func TestSame(t *testing.T) {
	states := differences()
	states["base"] = state(base)
	states["zero"] = api.Sched{}
	for a, s := range states {
		for b, u := range states {
			if got := sched.Same(s, clone(u)); got != (a == b) {
				t.Errorf("Same of %q and %q: %v", a, b, got)
			}
		}
	}
	m := newMaker()
	for range 3000 {
		s, u := m.broken(), m.broken()
		if sched.Same(s, u) != equal(s, u) || !sched.Same(s, clone(s)) {
			t.Errorf("Same of %s and %s: %v", show(s), show(u), sched.Same(s, u))
		}
	}
}
