package sched_test

import (
	"slices"
	"testing"

	"tapline/api"
	"tapline/sched"
)

// placesOf returns how many times each thread stands on a processor, in a queue, or nowhere because it is blocked or has ended.
func placesOf(s api.Sched) []int {
	out := make([]int, len(s.Threads))
	for _, q := range s.Cpus {
		if q.Run != -1 {
			out[q.Run]++
		}
		for _, thr := range q.Ready {
			out[thr]++
		}
	}
	for thr, t := range s.Threads {
		if t.State == api.StBlock || t.State == api.StDead {
			out[thr]++
		}
	}
	return out
}

// mayChange returns the threads whose State a call may change: the one that it names, the one that ran on its processor, and the one that runs there behind it.
func mayChange(o op, ahead, behind api.Sched) []int {
	switch o.name {
	case "End", "Block", "Wake", "SetPri":
		return []int{o.a}
	case "Switch":
		return []int{ahead.Cpus[o.a].Run, behind.Cpus[o.a].Run}
	}
	return nil
}

// P5.2: every result with a valid state is valid, each thread stands in one place, and no other thread changes its State.
func TestInOnePlace(t *testing.T) {
	m := newMaker()
	count := map[string]int{}
	for range 40000 {
		s := m.valid()
		o := m.op(s)
		out := call(s, o)
		if out.err != api.OK {
			continue
		}
		count[o.name]++
		if sched.Check(out.state) != api.OK || !modelValid(out.state) {
			t.Fatalf("%v of %s: %s is not valid", o, show(s), show(out.state))
		}
		for thr, n := range placesOf(out.state) {
			if n != 1 {
				t.Errorf("%v of %s: thread %d stands in %d places of %s", o, show(s), thr, n, show(out.state))
			}
		}
		may := mayChange(o, s, out.state)
		for thr := range s.Threads {
			if s.Threads[thr].State != out.state.Threads[thr].State && !slices.Contains(may, thr) {
				t.Errorf("%v of %s changes the State of %d: %s", o, show(s), thr, show(out.state))
			}
		}
	}
	for _, name := range opNames {
		if count[name] < 500 {
			t.Errorf("too few cases of %s: %v", name, count)
		}
	}
}

// P5.2: runs of calls, from New on, keep the state valid.
func TestRunsStayValid(t *testing.T) {
	m := newMaker()
	for range 100 {
		s, _ := sched.New(1+m.Intn(4), 1+m.Intn(20))
		for range 200 {
			if out := call(s, m.op(s)); out.err == api.OK {
				s = out.state
			}
			if sched.Check(s) != api.OK || !modelValid(s) {
				t.Fatalf("%s is not valid", show(s))
			}
		}
	}
}

// settled fails if behind a Switch of a processor another one is due, a ready thread has a greater priority than the running one, or the processor is idle while a thread is ready.
func settled(t *testing.T, s api.Sched, cpu int) {
	t.Helper()
	out := must(t, s, op{"Switch", cpu, 0})
	if sched.Due(out.state, cpu) {
		t.Errorf("behind Switch(%s, %d) a switch is due: %v", show(s), cpu, out)
	}
	q := out.state.Cpus[cpu]
	if out.n != q.Run || q.Run == -1 && len(q.Ready) > 0 {
		t.Errorf("behind Switch(%s, %d): %v", show(s), cpu, out)
	}
	for thr, x := range out.state.Threads {
		if q.Run != -1 && x.State == api.StReady && x.Cpu == cpu && x.Pri > out.state.Threads[q.Run].Pri {
			t.Errorf("behind Switch(%s, %d), %d has a greater priority: %v", show(s), cpu, thr, out)
		}
	}
	again := must(t, out.state, op{"Switch", cpu, 0})
	if !equal(again.state, out.state) || again.n != out.n {
		t.Errorf("Switch(%s, %d) twice: %v, %v", show(s), cpu, out, again)
	}
}

// P5.3: behind Switch no switch is due, nobody with a greater priority is ready, and a processor is idle only if its Ready is empty.
func TestPriorities(t *testing.T) {
	every(func(s api.Sched) { settled(t, s, 0) })
	m := newMaker()
	for range 10000 {
		s := m.valid()
		settled(t, s, m.Intn(len(s.Cpus)))
	}
}

// elsewhere executes something on another processor than cpu, if there is one and it can be executed.
func (m maker) elsewhere(s api.Sched, cpu int) api.Sched {
	o := m.opOn(s, m.Intn(len(s.Cpus)))
	if o.name == "" || m.where(s, o) == cpu {
		return s
	}
	if out := call(s, o); out.err == api.OK {
		return out.state
	}
	return s
}

// opOn returns a call of Block, End, Wake or SetPri of a thread of a processor, or of Switch, Tick or Yield of it; or one without a name.
func (m maker) opOn(s api.Sched, cpu int) op {
	name := []string{"Block", "End", "Wake", "SetPri", "Switch", "Tick", "Yield"}[m.Intn(7)]
	if slices.Contains([]string{"Switch", "Tick", "Yield"}, name) {
		return op{name, cpu, 0}
	}
	var of []int
	for thr, x := range s.Threads {
		if x.Cpu == cpu {
			of = append(of, thr)
		}
	}
	if len(of) == 0 {
		return op{}
	}
	return op{name, of[m.Intn(len(of))], m.Intn(8)}
}

// where returns the processor of a call that opOn made.
func (m maker) where(s api.Sched, o op) int {
	if slices.Contains([]string{"Switch", "Tick", "Yield"}, o.name) {
		return o.a
	}
	return s.Threads[o.a].Cpu
}

// waits reports whether P5.4 says something of the thread at an index of Ready: whether those ahead of it have its priority, and the running one has no greater one.
func waits(s api.Sched, cpu, k int) bool {
	q := s.Cpus[cpu]
	pri := s.Threads[q.Ready[k]].Pri
	for _, thr := range q.Ready[:k] {
		if s.Threads[thr].Pri != pri {
			return false
		}
	}
	return q.Run == -1 || s.Threads[q.Run].Pri <= pri
}

// ticksUntil returns how many ticks, each with a Switch if one is due, pass on a processor until a thread runs, at most limit + 1; between them something happens on others.
func ticksUntil(t *testing.T, m maker, s api.Sched, cpu, thr, limit int) int {
	t.Helper()
	if s.Cpus[cpu].Run == -1 {
		s = must(t, s, op{"Switch", cpu, 0}).state
	}
	ticks := 0
	for s.Cpus[cpu].Run != thr && ticks <= limit {
		out := must(t, m.elsewhere(s, cpu), op{"Tick", cpu, 0})
		if s = out.state; out.flag {
			s = must(t, s, op{"Switch", cpu, 0}).state
		}
		ticks++
	}
	return ticks
}

// P5.4: a thread at the index k, behind threads of its priority, runs behind at most (k + 1) times Quantum ticks; just so many if the running one has its priority and a whole slice.
func TestBoundedWaiting(t *testing.T) {
	m := newMaker()
	bounds, exact := 0, 0
	for range 6000 {
		s := m.valid()
		for cpu, q := range s.Cpus {
			for k, thr := range q.Ready {
				if !waits(s, cpu, k) {
					break
				}
				bounds++
				bound := (k + 1) * s.Quantum
				n := ticksUntil(t, m, s, cpu, thr, bound)
				if n > bound {
					t.Errorf("%s: thread %d of Ready of %d does not run behind %d ticks", show(s), k, cpu, bound)
				}
				if q.Run != -1 && q.Left == s.Quantum && s.Threads[q.Run].Pri == s.Threads[thr].Pri {
					exact++
					if n != bound {
						t.Errorf("%s: thread %d of Ready of %d runs behind %d ticks; want %d", show(s), k, cpu, n, bound)
					}
				}
			}
		}
	}
	if bounds < 3000 || exact < 100 {
		t.Errorf("too few cases: %d, %d", bounds, exact)
	}
}

// P5.4: the bound of threads that wait behind an idle processor, one with a lesser priority, and one with a slice that is used up.
func TestBoundedWaitingWrittenOut(t *testing.T) {
	for _, c := range []struct {
		text  string
		ticks []int // of the threads 1, 2 and 3, which stand at the indices 0, 1 and 2
	}{
		{"q4 | 0d0 3r0 3r0 3r0 | -1/0 1 2 3", []int{0, 4, 8}},
		{"q4 | 3x0 3r0 3r0 3r0 | 0/4 1 2 3", []int{4, 8, 12}}, {"q4 | 3x0 3r0 3r0 3r0 | 0/1 1 2 3", []int{1, 5, 9}}, {"q4 | 3x0 3r0 3r0 3r0 | 0/0 1 2 3", []int{1, 5, 9}},
		{"q4 | 2x0 3r0 3r0 3r0 | 0/4 1 2 3", []int{1, 5, 9}}, {"q4 | 2x0 3r0 3r0 3r0 | 0/0 1 2 3", []int{1, 5, 9}}, {"q1 | 2x0 3r0 3r0 3r0 | 0/1 1 2 3", []int{1, 2, 3}}, {"q1 | 3x0 3r0 3r0 3r0 | 0/1 1 2 3", []int{1, 2, 3}},
	} {
		for k, want := range c.ticks {
			if n := ticksUntil(t, newMaker(), state(c.text), 0, k+1, 100); n != want {
				t.Errorf("%s: thread %d runs behind %d ticks; want %d", c.text, k+1, n, want)
			}
		}
	}
}

// fair is a run on one processor with threads of the priority 3, in the order in which they became ready, that are interrupted by one of the priority 5 alone: thread 0.
type fair struct {
	maker
	s      api.Sched
	queue  []int // of the priority 3: those that are ready, and ahead of them the one that was preempted
	counts map[string]int
}

// newFair returns a run with six threads of the priority 3; thread 0 is blocked, and a lesser one always ready.
func newFair(m maker) *fair {
	return &fair{maker: m, s: state("q9 | 5b0 3b0 3b0 3b0 3b0 3b0 3b0 1r0 | -1/0 7"), counts: map[string]int{}}
}

func (f *fair) do(t *testing.T, name string, thr int) {
	t.Helper()
	f.s = must(t, f.s, op{name, thr, 0}).state
}

// next makes something happen, other than the end of a slice.
func (f *fair) next(t *testing.T) {
	t.Helper()
	run := f.s.Cpus[0].Run
	thr := f.Intn(7)
	state := f.s.Threads[thr].State
	switch {
	case state == api.StBlock:
		f.do(t, "Wake", thr)
		if thr != 0 {
			f.queue = append(f.queue, thr)
		}
	case thr == run:
		f.do(t, "Block", thr)
	case f.s.Cpus[0].Left > 1:
		f.do(t, "Tick", 0)
	}
	if f.Intn(4) == 0 {
		return // several things happen ahead of the switch
	}
	f.dispatch(t)
}

// dispatch calls Switch, and expects the thread that it has to dispatch.
func (f *fair) dispatch(t *testing.T) {
	t.Helper()
	ran := f.s.Cpus[0].Run
	due := sched.Due(f.s, 0)
	f.do(t, "Switch", 0)
	runs := f.s.Cpus[0].Run
	if !due || runs == ran {
		return
	}
	if ran >= 1 && ran <= 6 {
		f.counts["preempted"]++
		f.queue = append([]int{ran}, f.queue...)
	}
	if runs >= 1 && runs <= 6 {
		f.counts["dispatched"]++
		if f.queue[0] != runs {
			t.Fatalf("%d runs: %s; want the first one of %v", runs, show(f.s), f.queue)
		}
		f.queue = f.queue[1:]
	}
}

// P5.5: threads of one priority are dispatched in the order in which they became ready, and a preempted one runs again first.
func TestFairness(t *testing.T) {
	m := newMaker()
	counts := map[string]int{}
	for range 60 {
		f := newFair(m)
		for range 300 {
			f.next(t)
		}
		for what, n := range f.counts {
			counts[what] += n
		}
	}
	if counts["preempted"] < 100 || counts["dispatched"] < 1000 {
		t.Errorf("too few cases: %v", counts)
	}
}

// P5.5: a thread that is preempted again and again stays the first one of its priority; one whose slice is used up goes behind the others.
func TestPreemptedThreads(t *testing.T) {
	s := state("q3 | 3r0 3r0 3r0 5b0 6b0 | -1/0 0 1 2")
	out := run(t, s, "Switch 0", "Tick 0", "Wake 3", "Switch 0")
	if got := show(out.state); got != "q3 | 3r0 3r0 3r0 5x0 6b0 | 3/3 0 1 2" {
		t.Errorf("preempted once: %s", got)
	}
	out = run(t, out.state, "Wake 4", "Switch 0", "Block 4", "Switch 0", "Block 3", "Switch 0")
	if got := show(out.state); got != "q3 | 3x0 3r0 3r0 5b0 6b0 | 0/3 1 2" {
		t.Errorf("the preempted one runs again: %s", got)
	}
	out = run(t, out.state, "Tick 0", "Tick 0", "Wake 3", "Switch 0", "Block 3", "Switch 0")
	if got := show(out.state); got != "q3 | 3x0 3r0 3r0 5b0 6b0 | 0/3 1 2" {
		t.Errorf("preempted twice: %s", got)
	}
	out = run(t, out.state, "Tick 0", "Tick 0", "Tick 0", "Switch 0")
	if got := show(out.state); got != "q3 | 3r0 3x0 3r0 5b0 6b0 | 1/3 2 0" {
		t.Errorf("the slice is used up: %s", got)
	}
}

// afterwards executes a call, and returns what it returns, and the state behind it: the same one if there is an error.
func afterwards(s api.Sched, o op) (api.Sched, outcome) {
	out := call(s, o)
	if out.err != api.OK {
		return s, out
	}
	return out.state, outcome{n: out.n, flag: out.flag}
}

// P5.6: calls of different processors commute, with their results and their errors.
func TestIndependence(t *testing.T) {
	m := newMaker()
	pairs := map[[2]string]int{}
	for range 40000 {
		s := m.valid()
		if len(s.Cpus) < 2 {
			continue
		}
		cpus := m.Perm(len(s.Cpus))
		a, b := m.opOn(s, cpus[0]), m.opOn(s, cpus[1])
		if a.name == "" || b.name == "" {
			continue
		}
		first, a1 := afterwards(s, a)
		ab, b2 := afterwards(first, b)
		second, b1 := afterwards(s, b)
		ba, a2 := afterwards(second, a)
		if !sched.Same(ab, ba) || !equal(ab, ba) || !sameOutcome(a1, a2) || !sameOutcome(b1, b2) {
			t.Fatalf("%v and %v of %s: %s, %v, %v; in the other order %s, %v, %v", a, b, show(s), show(ab), a1, b2, show(ba), a2, b1)
		}
		if a1.err == api.OK && b1.err == api.OK && !equal(first, s) && !equal(second, s) {
			pairs[[2]string{a.name, b.name}]++
		}
	}
	if len(pairs) != 49 {
		t.Errorf("only %d pairs of functions: %v", len(pairs), pairs)
	}
}

// P5.7: behind Steal of each processor in turn, and then Switch of each one, no processor is idle while a thread is ready.
func TestWorkConservation(t *testing.T) {
	m := newMaker()
	stolen, left := 0, 0
	for range 20000 {
		s := m.valid()
		ahead := show(s)
		for _, cpu := range m.Perm(len(s.Cpus)) {
			out := must(t, s, op{"Steal", cpu, 0})
			s = out.state
			if out.n >= 0 {
				stolen++
			}
		}
		for _, cpu := range m.Perm(len(s.Cpus)) {
			s = must(t, s, op{"Switch", cpu, 0}).state
		}
		idle, ready := 0, 0
		for _, q := range s.Cpus {
			ready += len(q.Ready)
			if q.Run == -1 {
				idle++
			}
		}
		if idle > 0 && ready > 0 {
			t.Errorf("%s becomes %s", ahead, show(s))
		}
		if idle > 0 {
			left++
		}
	}
	if stolen < 1000 || left < 1000 {
		t.Errorf("too few cases: %d, %d", stolen, left)
	}
}

// P5.7: one processor has all threads, and the others take some of them.
func TestWorkConservationWrittenOut(t *testing.T) {
	for _, c := range [][2]string{
		{"q2 | 3r0 3r0 3r0 3r0 | -1/0 0 1 2 3 | -1/0 | -1/0 | -1/0", "q2 | 3x1 3x2 3x3 3x0 | 3/2 | 0/2 | 1/2 | 2/2"},
		{"q2 | 3x3 3r3 4r3 | -1/0 | -1/0 | -1/0 | 0/1 2 1", "q2 | 3x3 3x1 4x0 | 2/2 | 1/2 | -1/0 | 0/1"},
		{"q2 | 3r2 3r3 | -1/0 | -1/0 | -1/0 0 | -1/0 1", "q2 | 3x2 3x3 | -1/0 | -1/0 | 0/2 | 1/2"},
	} {
		out := run(t, state(c[0]), "Steal 0", "Steal 1", "Steal 2", "Steal 3", "Switch 0", "Switch 1", "Switch 2", "Switch 3")
		if show(out.state) != c[1] {
			t.Errorf("%s becomes %s; want %s", c[0], show(out.state), c[1])
		}
	}
}

// atEndOf returns the ready threads of a processor with one of them behind all those of its priority.
func atEndOf(s api.Sched, cpu, thr int) []int {
	var out []int
	for _, other := range s.Cpus[cpu].Ready {
		if other != thr && s.Threads[other].Pri >= s.Threads[thr].Pri {
			out = append(out, other)
		}
	}
	out = append(out, thr)
	for _, other := range s.Cpus[cpu].Ready {
		if s.Threads[other].Pri < s.Threads[thr].Pri {
			out = append(out, other)
		}
	}
	return out
}

// P5.8: Wake after Block of a ready thread puts it behind all of its priority, as SetPri to the same priority does; of the last one of its priority this changes nothing.
func TestWakeAfterBlock(t *testing.T) {
	m := newMaker()
	same, moved := 0, 0
	for range 5000 {
		s := m.valid()
		for cpu, q := range s.Cpus {
			for _, thr := range q.Ready {
				want := clone(s)
				want.Cpus[cpu].Ready = atEndOf(s, cpu, thr)
				blocked := must(t, s, op{"Block", thr, 0}).state
				woken := must(t, blocked, op{"Wake", thr, 0})
				set := must(t, s, op{"SetPri", thr, s.Threads[thr].Pri}).state
				if !equal(woken.state, want) || !equal(set, want) || woken.flag != sched.Due(want, cpu) {
					t.Errorf("Block and Wake of %d in %s: %v; SetPri: %s; want %s", thr, show(s), woken, show(set), show(want))
				}
				if equal(want, s) {
					same++
				} else {
					moved++
				}
			}
		}
	}
	if same < 500 || moved < 500 {
		t.Errorf("too few cases: %d, %d", same, moved)
	}
}

// P5.8: End after Block is End.
func TestEndAfterBlock(t *testing.T) {
	m := newMaker()
	counts := map[int]int{}
	for range 5000 {
		s := m.valid()
		for thr, x := range s.Threads {
			if x.State != api.StReady && x.State != api.StRun {
				continue
			}
			counts[x.State]++
			ended := must(t, s, op{"End", thr, 0}).state
			blocked := must(t, s, op{"Block", thr, 0}).state
			if behind := must(t, blocked, op{"End", thr, 0}).state; !equal(behind, ended) {
				t.Errorf("End after Block of %d in %s: %s; End: %s", thr, show(s), show(behind), show(ended))
			}
		}
	}
	if counts[api.StReady] < 500 || counts[api.StRun] < 500 {
		t.Errorf("too few cases: %v", counts)
	}
}
