package kernel_test

import (
	"bytes"
	"slices"
	"testing"

	"tapline/api"
	"tapline/cpu"
	"tapline/kernel"
)

// places returns how many times each thread runs, is ready, sleeps, waits for a request, is stopped, or has ended.
func places(k api.Kern) []int {
	out := make([]int, len(k.Threads))
	for _, q := range k.Sched.Cpus {
		if q.Run >= 0 {
			out[q.Run]++
		}
		for _, tid := range q.Ready {
			out[tid]++
		}
	}
	for _, r := range k.Disk.Queue {
		out[r.Tid]++
	}
	for tid, t := range k.Threads {
		if t.Wait == api.WtSleep || t.Wait == api.WtStop || k.Sched.Threads[tid].State == api.StDead {
			out[tid]++
		}
	}
	return out
}

// sound expects a state to be valid, and each thread to stand in one place.
func sound(t *testing.T, what string, k api.Kern) {
	t.Helper()
	if kernel.Check(k) != api.OK || !modelValid(k) {
		t.Fatalf("%s returns a state that is not valid:\n%s", what, show(k))
	}
	for tid, n := range places(k) {
		if n != 1 {
			t.Fatalf("%s: thread %d stands in %d places of\n%s", what, tid, n, show(k))
		}
	}
}

// P6.2: the states that New, Step, Apply, Run, Stop, Kill and Poke return are valid, and each thread stands in one place.
func TestInvariant(t *testing.T) {
	m := newMaker()
	counts := map[string]int{}
	keep := func(what string, k api.Kern, e api.Errno) {
		if e == api.OK {
			counts[what]++
			sound(t, what, k)
		}
	}
	for range 1500 {
		k := m.valid()
		if m.Intn(3) == 0 {
			next, e := kernel.New(m.boot())
			keep("New", next, e)
			k = next
		}
		p := m.pick(k)
		next, _, e := kernel.Step(k, p)
		keep("Step", next, e)
		next, _, e = kernel.Apply(k, p, m.effect(k, -1))
		keep("Apply", next, e)
		next, _, e = kernel.Run(k, m.picks(k, m.Intn(30)))
		keep("Run", next, e)
		if e == api.OK {
			k = next
		}
		next, _, e = kernel.Stop(k, m.Intn(17))
		keep("Stop", next, e)
		next, _, e = kernel.Kill(k, m.Intn(9), m.word(5))
		keep("Kill", next, e)
		next, _, e = kernel.Poke(k, m.Intn(9), m.word(300), make([]byte, m.Intn(65)))
		keep("Poke", next, e)
	}
	for _, what := range []string{"New", "Step", "Apply", "Run", "Stop", "Kill", "Poke"} {
		if counts[what] < 300 {
			t.Errorf("too few cases: %v", counts)
		}
	}
}

// trail is a run, transition by transition.
type trail struct {
	picks  []api.Pick
	states []api.Kern // the one ahead of each transition, and at the end the last one
	events [][]api.Event
}

// trailOf makes a run from a state, of picks each of which has no error; it ends early if a pick has one.
func trailOf(k api.Kern, picks []api.Pick) trail {
	out := trail{states: []api.Kern{k}}
	for _, p := range picks {
		next, events, e := kernel.Step(k, p)
		if e != api.OK {
			break
		}
		k = next
		out.picks, out.states, out.events = append(out.picks, p), append(out.states, k), append(out.events, events)
	}
	return out
}

// trails calls f with so many long runs of programs that go on, and with more short ones from any state.
func trails(m maker, n int, f func(r trail)) {
	for range n {
		k, e := kernel.New(m.boot())
		if e != api.OK {
			panic("no configuration")
		}
		f(trailOf(k, m.picks(k, 400)))
	}
	for range 7 * n {
		k := m.valid()
		f(trailOf(k, m.picks(k, 30)))
	}
}

// last returns the state behind the run.
func (r trail) last() api.Kern {
	return r.states[len(r.states)-1]
}

// log returns all events.
func (r trail) log() []api.Event {
	return slices.Concat(r.events...)
}

// running returns the threads that run, by their processors.
func running(k api.Kern) map[int]int {
	out := map[int]int{}
	for cpu, q := range k.Sched.Cpus {
		if q.Run >= 0 {
			out[cpu] = q.Run
		}
	}
	return out
}

// P6.3: which thread runs on each processor follows from EvOn and EvOff.
func TestTheLogDeterminesTheSchedule(t *testing.T) {
	counts := map[int]int{}
	trails(newMaker(), 40, func(r trail) {
		on := map[int]int{} // where each thread runs
		for cpu, tid := range running(r.states[0]) {
			on[tid] = cpu
		}
		for i, events := range r.events {
			for _, e := range events {
				cpu, runs := on[e.Tid]
				switch e.Kind {
				case api.EvOn:
					if runs {
						t.Errorf("%s, but it runs on %d", showEvent(e), cpu)
					}
					on[e.Tid] = e.Cpu
					counts[e.Kind]++
				case api.EvOff:
					if !runs {
						t.Errorf("%s, but it does not run", showEvent(e))
					}
					delete(on, e.Tid)
					counts[e.Kind]++
				}
			}
			want := map[int]int{}
			for tid, cpu := range on {
				if other, ok := want[cpu]; ok {
					t.Errorf("%d and %d run on %d", tid, other, cpu)
				}
				want[cpu] = tid
			}
			if got := running(r.states[i+1]); !equalMaps(got, want) {
				t.Fatalf("the log says %v; behind %v in\n%s\n%s", want, r.picks[i], show(r.states[i+1]), showEvents(events))
			}
		}
	})
	if counts[api.EvOn] < 1000 || counts[api.EvOff] < 1000 {
		t.Errorf("too few cases: %v", counts)
	}
}

func equalMaps(a, b map[int]int) bool {
	for k, v := range a {
		if w, ok := b[k]; !ok || v != w {
			return false
		}
	}
	return len(a) == len(b)
}

// P6.4: for each thread EvEntry and EvReturn alternate, with the same number; who has entered a call last waits in it, or has ended.
func TestCallsAlternate(t *testing.T) {
	counts := map[int]int{}
	trails(newMaker(), 40, func(r trail) {
		in := map[int]int{} // the call in which each thread is
		for tid, th := range r.states[0].Threads {
			if th.Sys != -1 {
				in[tid] = th.Sys
			}
		}
		for i, events := range r.events {
			for _, e := range events {
				n, inCall := in[e.Tid]
				switch e.Kind {
				case api.EvEntry:
					if inCall {
						t.Fatalf("%s in the call %d", showEvent(e), n)
					}
					in[e.Tid] = int(e.Args[0])
				case api.EvReturn:
					if !inCall || n != int(e.Args[0]) {
						t.Fatalf("%s in the call %d, %v", showEvent(e), n, inCall)
					}
					delete(in, e.Tid)
				}
				counts[e.Kind]++
			}
			for tid, th := range r.states[i+1].Threads {
				n, inCall := in[tid]
				dead := r.states[i+1].Sched.Threads[tid].State == api.StDead
				if inCall && n != th.Sys && !dead || !inCall && th.Sys != -1 {
					t.Fatalf("thread %d is in the call %d, %v, by the log, but %s", tid, n, inCall, showThread(r.states[i+1], tid))
				}
				if inCall && !dead {
					counts[-1]++
				}
			}
		}
	})
	if counts[api.EvEntry] < 1000 || counts[api.EvReturn] < 1000 || counts[-1] < 1000 {
		t.Errorf("too few cases: %v", counts)
	}
}

// P6.5: Run of two lists is Run of the first one, and then of the second one; Run of single picks is Step.
func TestRunsOfRuns(t *testing.T) {
	m := newMaker()
	trails(m, 40, func(r trail) {
		whole, events, e := kernel.Run(r.states[0], r.picks)
		if e != api.OK || !equal(whole, r.last()) || !equal(events, r.log()) {
			t.Fatalf("Run of %d picks: %d", len(r.picks), e)
		}
		at := m.Intn(len(r.picks) + 1)
		first, before, e := kernel.Run(r.states[0], r.picks[:at])
		if e != api.OK || !equal(first, r.states[at]) {
			t.Fatalf("Run of %d picks: %d", at, e)
		}
		second, behind, e := kernel.Run(first, r.picks[at:])
		if e != api.OK || !equal(second, whole) || !equal(slices.Concat(before, behind), events) {
			t.Fatalf("Run of %d picks, and then of %d: %d", at, len(r.picks)-at, e)
		}
	})
	for range 300 {
		k := m.valid()
		a, b := []api.Pick{m.pick(k), m.pick(k), m.pick(k)}, []api.Pick{m.pick(k), m.pick(k)}
		whole, events, e := kernel.Run(k, slices.Concat(a, b))
		next, first, e1 := kernel.Run(k, a)
		if e1 == api.OK {
			var second []api.Event
			next, second, e1 = kernel.Run(next, b)
			first = slices.Concat(first, second)
		}
		if e != e1 || e == api.OK && (!equal(next, whole) || !equal(first, events)) {
			t.Errorf("Run of %v and %v: %d, %d", a, b, e, e1)
		}
	}
}

// plainStep reports whether a pick executes an instruction without a trap, with the thread and the effect.
func plainStep(k api.Kern, p api.Pick) (int, api.Effect, bool) {
	tid, e := kernel.Executes(k, p)
	if e != api.OK || tid < 0 {
		return 0, api.Effect{}, false
	}
	x, _ := cpu.Step(k.Procs[k.Threads[tid].Pid].Space, k.Threads[tid].Regs)
	return tid, x, x.Trap.Kind == api.TrNone
}

// local expects a transition to change nothing but what P6.6 names.
func local(t *testing.T, ahead, behind api.Kern, p api.Pick, tid int, x api.Effect) {
	t.Helper()
	want := clone(ahead)
	want.Threads[tid].Regs = x.Regs
	copy(want.Procs[want.Threads[tid].Pid].Space.Bytes[x.At:], x.Data)
	want.Clocks[p.Cpu].Now += want.Clocks[p.Cpu].Rate
	if want.Sched.Cpus[p.Cpu].Left == 0 {
		want.Sched.Cpus[p.Cpu].Left = want.Sched.Quantum
	}
	if !equal(behind, want) {
		t.Fatalf("%v of\n%s\nis\n%s", p, show(ahead), show(behind))
	}
}

// P6.6: an instruction without a trap changes registers, memory by one store, the clock, and Left.
func TestLocality(t *testing.T) {
	counts := map[string]int{}
	trails(newMaker(), 40, func(r trail) {
		for i, p := range r.picks {
			tid, x, ok := plainStep(r.states[i], p)
			if !ok {
				continue
			}
			counts["steps"]++
			if len(x.Data) > 0 {
				counts["stores"]++
			}
			if r.states[i].Sched.Cpus[p.Cpu].Left == 0 {
				counts["slices"]++
			}
			local(t, r.states[i], r.states[i+1], p, tid, x)
			if l := r.events[i]; len(l) != 1 || l[0].Kind != api.EvInsn || l[0].Tid != tid {
				t.Errorf("the events of an instruction: %s", showEvents(l))
			}
		}
	})
	if counts["steps"] < 1000 || counts["stores"] < 200 || counts["slices"] < 100 {
		t.Errorf("too few cases: %v", counts)
	}
}

// both makes two transitions.
func both(k api.Kern, a, b api.Pick) api.Kern {
	k, _, _ = kernel.Run(k, []api.Pick{a, b})
	return k
}

// P6.7: transitions of different processors that execute instructions without traps, of threads of different processes, commute.
func TestCommutation(t *testing.T) {
	counts := map[string]int{}
	trails(newMaker(), 40, func(r trail) {
		for _, k := range r.states {
			for a := range k.Clocks {
				for b := range a {
					p, q := api.Pick{Cpu: a}, api.Pick{Cpu: b}
					first, x, ok := plainStep(k, p)
					second, y, also := plainStep(k, q)
					if !ok || !also || k.Threads[first].Pid == k.Threads[second].Pid || counts["pairs"] > 1000 && len(x.Data)+len(y.Data) == 0 {
						continue
					}
					counts["pairs"]++
					if len(x.Data) > 0 || len(y.Data) > 0 {
						counts["stores"]++
					}
					ab, ba := both(k, p, q), both(k, q, p)
					if !equal(ab, ba) || !kernel.Same(ab, ba) || isZero(ab) {
						t.Fatalf("%v and %v of\n%s", p, q, show(k))
					}
				}
			}
		}
	})
	if counts["pairs"] < 1000 || counts["stores"] < 200 {
		t.Errorf("too few cases: %v", counts)
	}
}

// device is what the log says of the device.
type device struct {
	blocks [][]byte
	open   []int // the threads whose requests are not served, in the order of EvStart
	counts map[string]int
}

// follow takes the events of a transition up; memory is that ahead of it.
func (d *device) follow(t *testing.T, ahead api.Kern, events []api.Event) {
	t.Helper()
	for i, e := range events {
		switch e.Kind {
		case api.EvStart:
			d.open = append(d.open, e.Tid)
		case api.EvExit:
			if slices.Contains(d.open, e.Tid) {
				d.counts["killed"]++
			}
			d.open = slices.DeleteFunc(d.open, func(tid int) bool { return tid == e.Tid })
		case api.EvDone:
			if len(d.open) == 0 || d.open[0] != e.Tid {
				t.Fatalf("%s; the log says %v", showEvent(e), d.open)
			}
			d.open = d.open[1:]
			d.serve(ahead, e, events[i:])
		}
	}
}

// serve takes a request up that is done, with the events behind it.
func (d *device) serve(ahead api.Kern, e api.Event, behind []api.Event) {
	result := behind[slices.IndexFunc(behind, func(r api.Event) bool { return r.Kind == api.EvReturn && r.Tid == e.Tid })].Args[1]
	write := e.Args[1] == 1
	if result != 0 {
		d.counts["refused"]++
		return
	}
	if !write {
		d.counts["read"]++
		return
	}
	d.counts["written"]++
	at := ahead.Disk.Queue[0].At
	d.blocks[e.Args[0]] = bytes.Clone(ahead.Procs[e.Pid].Space.Bytes[at : at+16])
}

// P6.8: a block has what the last successful write transferred; requests are served in the order of EvStart, each once, unless their thread was killed.
func TestTheDevice(t *testing.T) {
	counts := map[string]int{}
	m := newMaker()
	trails(m, 40, func(r trail) {
		d := device{blocks: clone(r.states[0].Disk.Blocks), counts: counts}
		for _, request := range r.states[0].Disk.Queue {
			d.open = append(d.open, request.Tid)
		}
		for i, events := range r.events {
			if p := r.picks[i]; p.Kind == api.PkDisk && len(r.states[i].Disk.Queue) > 0 && !r.states[i].Disk.Queue[0].Write && events[2].Args[1] == 0 {
				request := r.states[i].Disk.Queue[0]
				pid := r.states[i].Threads[request.Tid].Pid
				if !bytes.Equal(r.states[i+1].Procs[pid].Space.Bytes[request.At:request.At+16], d.blocks[request.Block]) {
					t.Errorf("%v transferred other bytes", request)
				}
			}
			d.follow(t, r.states[i], events)
			if !equal(d.blocks, r.states[i+1].Disk.Blocks) {
				t.Fatalf("the log says %v; want %v", d.blocks, r.states[i+1].Disk.Blocks)
			}
			var open []int
			for _, request := range r.states[i+1].Disk.Queue {
				open = append(open, request.Tid)
			}
			if !slices.Equal(open, d.open) {
				t.Fatalf("the log says %v; want %v", d.open, open)
			}
		}
	})
	for _, what := range []string{"read", "written", "refused", "killed"} {
		if counts[what] < 30 {
			t.Errorf("too few cases: %v", counts)
		}
	}
}

// P6.9: a clock has advanced by its rate times the number of the picks of its processor; the times of a processor's events do not decrease.
func TestClocks(t *testing.T) {
	m := newMaker()
	trails(m, 40, func(r trail) {
		k, events, e := kernel.Run(r.states[0], r.picks)
		if e != api.OK {
			t.Fatalf("Run: %d", e)
		}
		for cpu, c := range r.states[0].Clocks {
			n := int64(0)
			for _, p := range r.picks {
				if p.Cpu == cpu {
					n++
				}
			}
			if want := (api.Clock{Now: c.Now + c.Rate*n, Rate: c.Rate}); k.Clocks[cpu] != want {
				t.Errorf("the clock of %d is %v; want %v", cpu, k.Clocks[cpu], want)
			}
			now := c.Now
			for _, e := range events {
				if e.Cpu != cpu {
					continue
				}
				if e.Time < now || e.Time > k.Clocks[cpu].Now {
					t.Errorf("%s at %d, behind %d", showEvent(e), e.Time, now)
				}
				now = e.Time
			}
		}
		for i, events := range r.events {
			placed(t, r.states[i+1], r.states[i].Clocks[r.picks[i].Cpu].Now, r.picks[i].Cpu, events)
		}
	})
}

// P6.10: Apply with the effect of cpu.Step is Step; if no instruction is executed the effect does not matter.
func TestEffects(t *testing.T) {
	m := newMaker()
	counts := map[bool]int{}
	for range 5000 {
		k := m.valid()
		p := m.pick(k)
		want, wantEvents, wantErr := kernel.Step(k, p)
		tid, e := kernel.Executes(k, p)
		x := m.effect(k, -1)
		if e == api.OK && tid >= 0 {
			x, _ = cpu.Step(k.Procs[k.Threads[tid].Pid].Space, k.Threads[tid].Regs)
		}
		counts[tid >= 0 && e == api.OK]++
		got, events, e := kernel.Apply(k, p, x)
		if e != wantErr || !equal(got, want) || !equal(events, wantEvents) {
			t.Fatalf("Apply of %v, %v is %d, Step %d, in\n%s", p, x, e, wantErr, show(k))
		}
	}
	if counts[true] < 1000 || counts[false] < 1000 {
		t.Errorf("too few cases: %v", counts)
	}
}

// P6.11: a process that is Dead stays so, with its status, and no event is about a thread behind its EvExit, and, if it ran, EvOff.
func TestTheEnd(t *testing.T) {
	counts := map[string]int{}
	trails(newMaker(), 40, func(r trail) {
		ended := map[int]bool{}
		for tid, s := range r.states[0].Sched.Threads {
			ended[tid] = s.State == api.StDead
		}
		for i, events := range r.events {
			ran := running(r.states[i])
			for n, e := range events {
				if ended[e.Tid] {
					last := events[max(n-1, 0)]
					if e.Kind != api.EvOff || e.Args[0] != api.StDead || last.Kind != api.EvExit || last.Tid != e.Tid || !slices.Contains(values(ran), e.Tid) {
						t.Fatalf("%s behind its end: %s", showEvent(e), showEvents(events))
					}
					counts["EvOff"]++
				}
				if e.Kind == api.EvExit {
					ended[e.Tid] = true
					counts["EvExit"]++
				}
			}
			for tid, s := range r.states[i+1].Sched.Threads {
				if ended[tid] != (s.State == api.StDead) {
					t.Errorf("thread %d: %v by the log, but State %d", tid, ended[tid], s.State)
				}
			}
			for pid, p := range r.states[i].Procs {
				if q := r.states[i+1].Procs[pid]; p.Dead && (!q.Dead || q.Status != p.Status) {
					t.Errorf("process %d was dead with %d, and is %v with %d", pid, p.Status, q.Dead, q.Status)
				} else if p.Dead {
					counts["dead"]++
				}
			}
		}
	})
	if counts["EvOff"] < 100 || counts["EvExit"] < 300 || counts["dead"] < 1000 {
		t.Errorf("too few cases: %v", counts)
	}
}

func values(m map[int]int) []int {
	var out []int
	for _, v := range m {
		out = append(out, v)
	}
	return out
}

// P6.12: a pick that is not among Enabled has no events, and leaves all but the clock as it is; each one that is has events, or changes more.
func TestEnabledPicks(t *testing.T) {
	counts := map[bool]int{}
	trails(newMaker(), 40, func(r trail) {
		for i, k := range r.states {
			if i%15 != 0 {
				continue
			}
			l, e := kernel.Enabled(k)
			if e != api.OK {
				t.Fatalf("Enabled: %d", e)
			}
			for cpu := range k.Clocks {
				for kind := range 3 {
					p := api.Pick{Cpu: cpu, Kind: kind}
					next, events, e := kernel.Step(k, p)
					if e != api.OK {
						expect(t, "a pick with an error", !slices.Contains(l, p))
						continue
					}
					next.Clocks[cpu] = k.Clocks[cpu]
					moves := len(events) > 0 || !equal(next, k)
					counts[moves]++
					if slices.Contains(l, p) != moves {
						t.Errorf("%v: enabled %v in\n%s", p, !moves, show(k))
					}
				}
			}
		}
	})
	if counts[true] < 1000 || counts[false] < 1000 {
		t.Errorf("too few cases: %v", counts)
	}
}

// untouched calls a function with values that have spare room behind their slices, and expects the values to stay as they are; the result shares no memory with them, nor parts of it among themselves.
func untouched(t *testing.T, what string, k api.Kern, call func(k api.Kern) any) {
	t.Helper()
	arg := roomy(k)
	ahead := whole(arg)
	out := call(arg)
	if !equal(whole(arg), ahead) {
		t.Errorf("%s changes its argument", what)
	}
	results := parts(out)
	if overlap(results, parts(arg)) {
		t.Errorf("the result of %s shares memory with its argument", what)
	}
	if overlaps(results) {
		t.Errorf("parts of the result of %s share memory", what)
	}
}

// P6.1: no result shares memory with an argument, and no argument is changed.
func TestMemory(t *testing.T) {
	m := newMaker()
	type result struct {
		Kern   api.Kern
		Events []api.Event
		Picks  []api.Pick
		Space  api.Space
	}
	for range 300 {
		k := m.valid()
		if m.Intn(2) == 0 {
			k, _ = kernel.New(m.boot())
		}
		p := api.Pick{Cpu: m.Intn(len(k.Clocks)), Kind: pick(m, 0, 0, 1, 2)}
		l := roomy(m.picks(k, 20))
		data := make([]byte, m.Intn(9), 12)
		x := api.Effect{At: pick(m, m.word(300), dataAt), Data: data, Trap: api.Trap{Kind: m.Intn(2), N: m.Intn(14)}}
		pid, n, at := m.Intn(len(k.Procs)), m.Intn(17), m.word(300)
		b := make([]byte, 16, 30)
		for what, call := range map[string]func(k api.Kern) result{
			"Check":    func(k api.Kern) result { kernel.Check(k); return result{} },
			"Step":     func(k api.Kern) result { k, events, _ := kernel.Step(k, p); return result{Kern: k, Events: events} },
			"Apply":    func(k api.Kern) result { k, events, _ := kernel.Apply(k, p, x); return result{Kern: k, Events: events} },
			"Executes": func(k api.Kern) result { kernel.Executes(k, p); return result{} },
			"Run":      func(k api.Kern) result { k, events, _ := kernel.Run(k, l); return result{Kern: k, Events: events} },
			"no run":   func(k api.Kern) result { k, events, _ := kernel.Run(k, nil); return result{Kern: k, Events: events} },
			"Enabled":  func(k api.Kern) result { picks, _ := kernel.Enabled(k); return result{Picks: picks} },
			"Current":  func(k api.Kern) result { kernel.Current(k, 0); return result{} },
			"Space":    func(k api.Kern) result { s, _ := kernel.Space(k, pid); return result{Space: s} },
			"Stop":     func(k api.Kern) result { k, _, _ = kernel.Stop(k, n); return result{Kern: k} },
			"Kill":     func(k api.Kern) result { k, _, _ = kernel.Kill(k, pid, at); return result{Kern: k} },
			"Poke":     func(k api.Kern) result { k, _, _ = kernel.Poke(k, pid, at, b); return result{Kern: k} },
			"Same":     func(k api.Kern) result { kernel.Same(k, k); return result{} },
		} {
			untouched(t, what, k, func(k api.Kern) any {
				out := call(k)
				if overlap(parts(out), parts(l, data, b)) {
					t.Errorf("the result of %s shares memory with a list", what)
				}
				return out
			})
		}
		expect(t, "the lists", !bytes.ContainsFunc(data[:12], func(r rune) bool { return r != 0 }) && !bytes.ContainsFunc(b[:30], func(r rune) bool { return r != 0 }))
	}
}

// P6.1: New leaves its argument as it is, and shares no memory with it, also if programs share memory.
func TestMemoryOfNew(t *testing.T) {
	m := newMaker()
	for range 200 {
		b := roomy(m.boot())
		if m.Intn(2) == 0 {
			b.Programs[len(b.Programs)-1] = b.Programs[0]
		}
		b.Programs[0].Syms = roomy(m.symbols(spaceTo))
		ahead := whole(b)
		k, e := kernel.New(b)
		if e != api.OK || !equal(whole(b), ahead) {
			t.Errorf("New changes its argument: %d", e)
		}
		if overlap(parts(k), parts(b)) || overlaps(parts(k)) {
			t.Errorf("the result of New shares memory")
		}
	}
}

// P6.1: a state behind a transition stays as it is when the one ahead of it is used again.
func TestStatesStayAsTheyAre(t *testing.T) {
	m := newMaker()
	trails(m, 10, func(r trail) {
		copies := clone(r.states)
		trailOf(r.states[0], r.picks)
		kernel.Run(r.states[0], m.picks(r.states[0], 50))
		for i := range r.states {
			if !equal(r.states[i], copies[i]) {
				t.Fatalf("the state behind %d transitions has changed", i)
			}
		}
	})
}
