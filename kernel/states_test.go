package kernel_test

import (
	"math"
	"slices"
	"strings"
	"testing"

	"tapline/api"
	"tapline/kernel"
)

// base is a valid state: threads of each State, and of each way to wait; process 2 is dead.
func base() api.Kern {
	space := programOf("0: nop; nop").Space
	k := api.Kern{
		Procs: []api.Proc{
			{Name: "first", Space: clone(space), Syms: []api.Sym{{Name: "main", At: 0, Size: 1}, {Name: "loop", At: 1, Size: 1}, {Name: "data", At: 10, Size: 118}}},
			{Name: "second", Space: clone(space)},
			{Name: "third", Space: api.Space{}, Dead: true, Status: 7},
		},
		Clocks: []api.Clock{{Now: 10, Rate: 3}, {Now: 0, Rate: 2}},
		Sched: api.Sched{Quantum: 4, Cpus: []api.CpuQ{{Run: 0, Left: 2, Ready: []int{1}}, {Run: 2, Left: 4, Ready: []int{8}}}, Threads: []api.Slot{
			{Pri: 3, State: api.StRun}, {Pri: 3, State: api.StReady}, {Pri: 4, Cpu: 1, State: api.StRun}, {Pri: 3, Cpu: 1, State: api.StBlock}, {Pri: 2, State: api.StBlock},
			{Pri: 1, Cpu: 1, State: api.StBlock}, {Pri: 7, State: api.StBlock}, {Pri: 0, State: api.StDead}, {Pri: 1, Cpu: 1, State: api.StReady}, {Pri: 3, State: api.StDead}}},
		Disk: api.Disk{Blocks: [][]byte{[]byte("0123456789abcdef"), make([]byte, 16), []byte("ABCDEFGHIJKLMNOP")}, Queue: []api.Request{{Tid: 5, Block: 2, Write: true, At: 130}, {Tid: 4, Block: 0, At: 128}}},
	}
	for _, pid := range []int{0, 0, 1, 1, 0, 1, 0, 2, 1, 0} {
		k.Threads = append(k.Threads, api.Thread{Pid: pid, Regs: api.Regs{R: [8]int64{api.SP: fixedAt}}, Sys: -1})
	}
	k.Threads[3].Wait, k.Threads[3].Chan, k.Threads[3].Sys = api.WtSleep, 5, api.SysSleep
	k.Threads[4].Wait, k.Threads[4].Sys = api.WtIo, api.SysRead
	k.Threads[5].Wait, k.Threads[5].Sys = api.WtIo, api.SysWrite
	k.Threads[6].Wait = api.WtStop
	return k
}

// change is a change of the base state.
type change struct {
	name string
	make func(k *api.Kern)
}

// blocks returns so many blocks.
func blocks(n int) [][]byte {
	var out [][]byte
	for range n {
		out = append(out, make([]byte, 16))
	}
	return out
}

// symbolsOf returns so many symbols of one byte.
func symbolsOf(n int) []api.Sym {
	var out []api.Sym
	for i := range n {
		out = append(out, api.Sym{Name: "s" + strings.Repeat("x", i%30) + string(rune('A'+i/30)), At: int64(i), Size: 1})
	}
	return out
}

// addThread adds a thread that has ended.
func addThread(k *api.Kern) {
	k.Threads = append(k.Threads, api.Thread{Sys: -1})
	k.Sched.Threads = append(k.Sched.Threads, api.Slot{State: api.StDead})
}

// kept are changes that leave the state valid.
func kept() []change {
	return []change{
		{"none", func(k *api.Kern) {}},
		{"eight processes", func(k *api.Kern) {
			for len(k.Procs) < 8 {
				k.Procs = append(k.Procs, api.Proc{Name: "p", Dead: true})
			}
		}},
		{"one process, no thread", func(k *api.Kern) {
			k.Procs, k.Threads, k.Disk.Queue, k.Sched.Threads = k.Procs[2:], nil, nil, nil
			k.Sched.Cpus = []api.CpuQ{{Run: -1}, {Run: -1}}
		}},
		{"sixteen threads", func(k *api.Kern) {
			for len(k.Threads) < 16 {
				addThread(k)
			}
		}},
		{"one block", func(k *api.Kern) {
			k.Disk = api.Disk{Blocks: blocks(1), Queue: []api.Request{{Tid: 5, Write: true}, {Tid: 4}}}
		}},
		{"sixteen blocks", func(k *api.Kern) { k.Disk.Blocks = blocks(16) }},
		{"Name of one byte", func(k *api.Kern) { k.Procs[0].Name = "!" }},
		{"Name of 31 bytes", func(k *api.Kern) { k.Procs[0].Name = strings.Repeat("~", 31) }},
		{"Name like no name", func(k *api.Kern) { k.Procs[0].Name = "0;:/-\"" }},
		{"the same Name twice", func(k *api.Kern) { k.Procs[0].Name = "second" }},
		{"32 symbols", func(k *api.Kern) { k.Procs[1].Syms = symbolsOf(32) }},
		{"a symbol of the whole space", func(k *api.Kern) { k.Procs[1].Syms = []api.Sym{{Name: "_", At: 0, Size: spaceTo}} }},
		{"a symbol of the last byte", func(k *api.Kern) {
			k.Procs[1].Syms = []api.Sym{{Name: strings.Repeat("a", 31), At: spaceTo - 1, Size: 1}}
		}},
		{"the same symbols in two processes", func(k *api.Kern) { k.Procs[1].Syms = slices.Clone(k.Procs[0].Syms) }},
		{"Now 0", func(k *api.Kern) { k.Clocks[0].Now = 0 }}, {"Now MaxTime", func(k *api.Kern) { k.Clocks[0].Now = 1 << 40 }},
		{"Rate 1", func(k *api.Kern) { k.Clocks[1].Rate = 1 }}, {"Rate 9", func(k *api.Kern) { k.Clocks[1].Rate = 9 }},
		{"Pid of a dead thread", func(k *api.Kern) { k.Threads[9].Pid = 2 }},
		{"Chan MinInt64", func(k *api.Kern) { k.Threads[3].Chan = math.MinInt64 }}, {"Chan 0", func(k *api.Kern) { k.Threads[3].Chan = 0 }},
		{"another order of requests", func(k *api.Kern) { slices.Reverse(k.Disk.Queue) }},
		{"two requests of one block", func(k *api.Kern) { k.Disk.Queue[0].Block = 0 }},
		{"a request of no address", func(k *api.Kern) { k.Disk.Queue[0].At = math.MinInt64 }},
		{"a request of an address that may not be read", func(k *api.Kern) { k.Disk.Queue[0].At = 0 }},
		{"Status MinInt64", func(k *api.Kern) { k.Procs[2].Status = math.MinInt64 }}, {"Status 0", func(k *api.Kern) { k.Procs[2].Status = 0 }},
		{"no registers", func(k *api.Kern) { k.Threads[0].Regs = api.Regs{} }},
	}
}

// brokenProcs are changes that break a condition of the processes.
func brokenProcs() []change {
	out := []change{
		{"no process", func(k *api.Kern) { k.Procs = nil }},
		{"no process and no thread", func(k *api.Kern) {
			k.Procs, k.Threads, k.Disk.Queue, k.Sched.Threads = nil, nil, nil, nil
			k.Sched.Cpus = []api.CpuQ{{Run: -1}, {Run: -1}}
		}},
		{"nine processes", func(k *api.Kern) {
			for len(k.Procs) < 9 {
				k.Procs = append(k.Procs, api.Proc{Name: "p", Dead: true})
			}
		}},
		{"many processes", func(k *api.Kern) { k.Procs = append(k.Procs, make([]api.Proc, 100000)...) }},
		{"permission 2", func(k *api.Kern) { k.Procs[1].Space.Perm[2] = 2 }}, {"permission 7", func(k *api.Kern) { k.Procs[0].Space.Perm[5] = 7 }},
		{"a byte less", func(k *api.Kern) { k.Procs[1].Space.Bytes = k.Procs[1].Space.Bytes[1:] }}, {"bytes without a page", func(k *api.Kern) { k.Procs[2].Space.Bytes = []byte{0} }},
		{"33 pages", func(k *api.Kern) { k.Procs[2].Space = api.Space{Perm: make([]int, 33), Bytes: make([]byte, 33*64)} }},
		{"33 symbols", func(k *api.Kern) { k.Procs[1].Syms = symbolsOf(33) }}, {"many symbols", func(k *api.Kern) { k.Procs[1].Syms = make([]api.Sym, 100000) }},
		{"equal names", func(k *api.Kern) { k.Procs[0].Syms[2].Name = "main" }}, {"equal names of neighbours", func(k *api.Kern) { k.Procs[0].Syms[1].Name = "main" }},
		{"symbols in another order", func(k *api.Kern) { slices.Reverse(k.Procs[0].Syms) }},
		{"a living process is Dead", func(k *api.Kern) { k.Procs[1].Dead = true }},
		{"a process with ended threads is not Dead", func(k *api.Kern) { k.Procs[2].Dead, k.Procs[2].Status = false, 0 }},
		{"a process without threads is not Dead", func(k *api.Kern) { k.Procs = append(k.Procs, api.Proc{Name: "p"}) }},
		{"a Dead process has a thread that is ready", func(k *api.Kern) { k.Threads[8].Pid = 2 }}, {"a Dead process has a thread that runs", func(k *api.Kern) { k.Threads[2].Pid = 2 }},
		{"a Dead process has a thread that sleeps", func(k *api.Kern) { k.Threads[3].Pid = 2 }},
		{"Status 1", func(k *api.Kern) { k.Procs[0].Status = 1 }}, {"Status -1", func(k *api.Kern) { k.Procs[1].Status = -1 }},
	}
	for _, name := range []string{"", strings.Repeat("a", 32), " ", "a b", "\x7f", "a\x00", "a\n", "\xff", "é", strings.Repeat("a", 5000)} {
		out = append(out, change{"Name " + name[:min(len(name), 40)], func(k *api.Kern) { k.Procs[1].Name = name }})
	}
	for _, name := range []string{"", strings.Repeat("a", 32), "1", "a-b", "a b", " a", "a ", "a;", "a:", ".a", "\n", "a\nb", "é", "a\x00", "$", "[", "`", "{", "@", "/"} {
		out = append(out, change{"symbol " + name, func(k *api.Kern) { k.Procs[0].Syms[1].Name = name }})
	}
	for _, s := range []struct{ i, at, size int64 }{
		{0, -1, 1}, {0, -1, 2}, {0, math.MinInt64, 1}, {0, math.MinInt64, math.MinInt64}, {0, math.MinInt64, math.MaxInt64},
		{0, 0, 0}, {0, 0, -1}, {0, 0, 2}, {0, 1, 1}, {0, 2, 1}, {0, 0, math.MaxInt64}, {0, 1, math.MaxInt64}, {0, 0, math.MinInt64},
		{1, 0, 1}, {1, 0, 2}, {1, 1, 10}, {1, 5, 6}, {1, 10, 1}, {1, 11, 1}, {1, 1, math.MaxInt64},
		{2, 10, spaceTo - 9}, {2, spaceTo, 1}, {2, spaceTo + 1, 1}, {2, spaceTo - 1, 2}, {2, 1, 5}, {2, 10, math.MaxInt64}, {2, math.MaxInt64, 1}, {2, math.MaxInt64, math.MaxInt64}, {2, 10, 0}, {2, spaceTo, 0},
	} {
		out = append(out, change{"At and Size of a symbol", func(k *api.Kern) { k.Procs[0].Syms[s.i].At, k.Procs[0].Syms[s.i].Size = s.at, s.size }})
	}
	return out
}

// brokenParts are changes that break a condition of the threads, the clocks, the scheduler or the device.
func brokenParts() []change {
	out := []change{
		{"no scheduler", func(k *api.Kern) { k.Sched = api.Sched{} }}, {"Quantum 0", func(k *api.Kern) { k.Sched.Quantum = 0 }}, {"Left 5 of 4", func(k *api.Kern) { k.Sched.Cpus[0].Left = 5 }},
		{"nobody runs", func(k *api.Kern) { k.Sched.Cpus[0].Run, k.Sched.Cpus[0].Left = -1, 0 }}, {"Pri 8", func(k *api.Kern) { k.Sched.Threads[3].Pri = 8 }}, {"Cpu 2", func(k *api.Kern) { k.Sched.Threads[3].Cpu = 2 }},
		{"a thread less", func(k *api.Kern) { k.Threads = k.Threads[:9] }}, {"a thread more", func(k *api.Kern) { k.Threads = append(k.Threads, api.Thread{Sys: -1}) }}, {"no threads", func(k *api.Kern) { k.Threads = nil }},
		{"a thread of the scheduler more", func(k *api.Kern) { k.Sched.Threads = append(k.Sched.Threads, api.Slot{State: api.StDead}) }}, {"a thread of the scheduler less", func(k *api.Kern) { k.Sched.Threads = k.Sched.Threads[:9] }},
		{"17 threads", func(k *api.Kern) {
			for len(k.Threads) < 17 {
				addThread(k)
			}
		}},
		{"many threads", func(k *api.Kern) { k.Threads = make([]api.Thread, 100000) }},
		{"a clock less", func(k *api.Kern) { k.Clocks = k.Clocks[:1] }}, {"a clock more", func(k *api.Kern) { k.Clocks = append(k.Clocks, api.Clock{Rate: 1}) }}, {"no clocks", func(k *api.Kern) { k.Clocks = nil }},
		{"a processor less", func(k *api.Kern) { k.Sched.Cpus = k.Sched.Cpus[:1] }}, {"a processor more", func(k *api.Kern) { k.Sched.Cpus = append(k.Sched.Cpus, api.CpuQ{Run: -1}) }},
		{"no blocks", func(k *api.Kern) { k.Disk.Blocks = nil }}, {"no blocks and no requests", func(k *api.Kern) { *k = woken(*k); k.Disk = api.Disk{} }}, {"17 blocks", func(k *api.Kern) { k.Disk.Blocks = blocks(17) }}, {"many blocks", func(k *api.Kern) { k.Disk.Blocks = make([][]byte, 100000) }},
		{"a block of 15 bytes", func(k *api.Kern) { k.Disk.Blocks[1] = k.Disk.Blocks[1][1:] }}, {"a block of 17 bytes", func(k *api.Kern) { k.Disk.Blocks[2] = make([]byte, 17) }}, {"a block of no bytes", func(k *api.Kern) { k.Disk.Blocks[0] = nil }},
		{"no requests", func(k *api.Kern) { k.Disk.Queue = nil }}, {"a request less", func(k *api.Kern) { k.Disk.Queue = k.Disk.Queue[:1] }}, {"a request twice", func(k *api.Kern) { k.Disk.Queue = append(k.Disk.Queue, k.Disk.Queue[0]) }},
		{"one request twice, the other one not", func(k *api.Kern) { k.Disk.Queue[1] = k.Disk.Queue[0] }}, {"two requests of a thread", func(k *api.Kern) { k.Disk.Queue = append(k.Disk.Queue, api.Request{Tid: 4, Block: 1, At: 300}) }},
		{"many requests", func(k *api.Kern) { k.Disk.Queue = make([]api.Request, 100000) }}, {"many requests of a thread that waits", func(k *api.Kern) { k.Disk.Queue = slices.Repeat(k.Disk.Queue[:1], 100000) }},
		{"a request that does not write", func(k *api.Kern) { k.Disk.Queue[0].Write = false }}, {"a request that writes", func(k *api.Kern) { k.Disk.Queue[1].Write = true }},
		{"a thread that writes", func(k *api.Kern) { k.Threads[4].Sys = api.SysWrite }}, {"a thread that does not wait for its request", func(k *api.Kern) { k.Threads[4].Wait = api.WtStop; k.Threads[4].Sys = -1 }},
	}
	for _, n := range []int64{0, 10, -1, math.MinInt64, math.MaxInt64} {
		out = append(out, change{"Rate", func(k *api.Kern) { k.Clocks[1].Rate = n }})
	}
	for _, n := range []int64{-1, 1<<40 + 1, math.MinInt64, math.MaxInt64} {
		out = append(out, change{"Now", func(k *api.Kern) { k.Clocks[1].Now = n }})
	}
	for _, n := range []int{-1, 3, 8, math.MinInt, math.MaxInt, 1 << 32} {
		for _, tid := range []int{0, 3, 9} {
			out = append(out, change{"Pid", func(k *api.Kern) { k.Threads[tid].Pid = n }})
		}
		out = append(out, change{"Block of a request", func(k *api.Kern) { k.Disk.Queue[1].Block = n }})
		out = append(out, change{"Tid of a request", func(k *api.Kern) { k.Disk.Queue[1].Tid = n }})
	}
	for tid := range 10 {
		if tid != 4 {
			out = append(out, change{"Tid of a request", func(k *api.Kern) { k.Disk.Queue[1].Tid = tid }})
		}
		if tid != 4 && tid != 5 {
			out = append(out, change{"a request of a thread that does not wait for the device", func(k *api.Kern) { k.Disk.Queue = append(k.Disk.Queue, api.Request{Tid: tid}) }})
		}
		for wait := -1; wait <= 4; wait++ {
			if wait != base().Threads[tid].Wait {
				out = append(out, change{"Wait", func(k *api.Kern) { k.Threads[tid].Wait = wait }})
			}
		}
		for call := -2; call <= 14; call++ {
			if call != base().Threads[tid].Sys {
				out = append(out, change{"Sys", func(k *api.Kern) { k.Threads[tid].Sys = call }})
			}
		}
		if tid != 3 {
			out = append(out, change{"Chan 1", func(k *api.Kern) { k.Threads[tid].Chan = 1 }}, change{"Chan -1", func(k *api.Kern) { k.Threads[tid].Chan = -1 }})
		}
	}
	return out
}

// woken returns a state in which the threads that wait for the device are stopped.
func woken(k api.Kern) api.Kern {
	for tid, t := range k.Threads {
		if t.Wait == api.WtIo {
			k.Threads[tid].Wait, k.Threads[tid].Sys = api.WtStop, -1
		}
	}
	k.Disk.Queue = nil
	return k
}

// fails expects each function with a state to return an error, and nothing else.
func fails(t *testing.T, name string, k api.Kern, want api.Errno) {
	t.Helper()
	for _, p := range []api.Pick{{}, {Kind: 1}, {Kind: 2}, {Cpu: -1}, {Kind: 9}} {
		next, events, e := kernel.Step(k, p)
		expect(t, name+": Step", e == want && isZero(next) && len(events) == 0)
		next, events, e = kernel.Apply(k, p, api.Effect{At: 5, Trap: api.Trap{Kind: 99}})
		expect(t, name+": Apply", e == want && isZero(next) && len(events) == 0)
		next, events, e = kernel.Run(k, []api.Pick{p})
		expect(t, name+": Run", e == want && isZero(next) && len(events) == 0)
		tid, e := kernel.Executes(k, p)
		expect(t, name+": Executes", e == want && tid == 0)
	}
	for _, l := range [][]api.Pick{nil, make([]api.Pick, 2001)} {
		next, events, e := kernel.Run(k, l)
		expect(t, name+": Run", e == want && isZero(next) && len(events) == 0)
	}
	l, e := kernel.Enabled(k)
	expect(t, name+": Enabled", e == want && len(l) == 0)
	for _, n := range []int{0, -1, 99} {
		tid, e := kernel.Current(k, n)
		expect(t, name+": Current", e == want && tid == 0)
		space, e := kernel.Space(k, n)
		expect(t, name+": Space", e == want && isZero(space))
		next, done, e := kernel.Stop(k, n)
		expect(t, name+": Stop", e == want && !done && isZero(next))
		next, done, e = kernel.Kill(k, n, 3)
		expect(t, name+": Kill", e == want && !done && isZero(next))
		next, done, e = kernel.Poke(k, n, 130, make([]byte, 99))
		expect(t, name+": Poke", e == want && !done && isZero(next))
	}
}

func expect(t *testing.T, what string, holds bool) {
	t.Helper()
	if !holds {
		t.Errorf("%s: not as told", what)
	}
}

// P6.1 (K1): Check of valid states, at the limits of each field.
func TestCheckOfValidStates(t *testing.T) {
	for _, c := range kept() {
		k := base()
		c.make(&k)
		if e := kernel.Check(k); e != api.OK || !modelValid(k) {
			t.Errorf("%s: Check = %d", c.name, e)
		}
	}
}

// P6.1 (K1): Check of states in which one condition is broken by itself; every function with a state returns ErrKern, ahead of all other errors.
func TestCheckOfBrokenStates(t *testing.T) {
	broken := append(brokenProcs(), brokenParts()...)
	if len(broken) < 200 {
		t.Errorf("only %d conditions", len(broken))
	}
	for _, c := range broken {
		k := base()
		c.make(&k)
		if e := kernel.Check(k); e != api.ErrKern || modelValid(k) {
			t.Errorf("%s: Check = %d of\n%s", c.name, e, show(k))
		}
		fails(t, c.name, k, api.ErrKern)
	}
	if e := kernel.Check(api.Kern{}); e != api.ErrKern {
		t.Errorf("the zero value: Check = %d", e)
	}
	fails(t, "the zero value", api.Kern{}, api.ErrKern)
}

// P6.1 (K1): Wait, Chan and Sys for each State, with and without a request.
func TestCheckOfWaits(t *testing.T) {
	counts := map[bool]int{}
	for tid := range 10 {
		for wait := -1; wait <= 4; wait++ {
			for call := -2; call <= 14; call++ {
				for _, channel := range []int64{0, 1} {
					for requests := range 3 {
						k := base()
						k.Disk.Queue = slices.DeleteFunc(k.Disk.Queue, func(r api.Request) bool { return r.Tid == tid })
						for range requests {
							k.Disk.Queue = append(k.Disk.Queue, api.Request{Tid: tid, Write: call == api.SysWrite})
						}
						k.Threads[tid].Wait, k.Threads[tid].Sys, k.Threads[tid].Chan = wait, call, channel
						valid := modelValid(k)
						counts[valid]++
						if e := kernel.Check(k); (e == api.OK) != valid {
							t.Errorf("Check = %d of\n%s", e, show(k))
						}
					}
				}
			}
		}
	}
	// Six threads do not wait; each of the four others sleeps on one of two channels, waits for one of two requests, or is stopped.
	if counts[true] != 6+4*(2+2+1) {
		t.Errorf("%v", counts)
	}
}

// P6.1 (K1): Check of random states, and of such with a change.
func TestCheckOfRandomStates(t *testing.T) {
	m := newMaker()
	counts := map[bool]int{}
	for range 4000 {
		k := m.valid()
		if e := kernel.Check(k); e != api.OK || !modelValid(k) {
			t.Fatalf("Check = %d of\n%s", e, show(k))
		}
		m.disturb(&k)
		valid := modelValid(k)
		counts[valid]++
		if e := kernel.Check(k); (e == api.OK) != valid || !valid && e != api.ErrKern {
			t.Errorf("Check = %d of\n%s", e, show(k))
		}
	}
	if counts[true] < 500 || counts[false] < 1500 {
		t.Errorf("too few cases: %v", counts)
	}
}

// disturb changes one field of a state.
func (m maker) disturb(k *api.Kern) {
	n := m.Intn(20) - 2
	p := &k.Procs[m.Intn(len(k.Procs))]
	c := &k.Clocks[m.Intn(len(k.Clocks))]
	if len(k.Threads) > 0 && m.Intn(2) == 0 {
		tid := m.Intn(len(k.Threads))
		th, s := &k.Threads[tid], &k.Sched.Threads[tid]
		switch m.Intn(4) {
		case 0:
			th.Chan = int64(n)
		case 1:
			th.Wait = n % 5
		default:
			*pick(m, &th.Pid, &th.Sys, &s.State, &s.Pri, &s.Cpu) = n
		}
		return
	}
	switch m.Intn(9) {
	case 0:
		*pick(m, &c.Rate, &c.Now, &p.Status) = int64(n)
	case 1:
		p.Dead = !p.Dead
	case 2:
		p.Name += pick(m, "", "a", " ", strings.Repeat("x", 30))
	case 3:
		if len(p.Space.Perm) > 0 {
			p.Space.Perm[m.Intn(len(p.Space.Perm))] = n % 8
		}
	case 4:
		if len(p.Syms) > 0 {
			s := &p.Syms[m.Intn(len(p.Syms))]
			*pick(m, &s.At, &s.Size) = pick(m, int64(m.Intn(100)), m.word(64))
		}
	case 5:
		k.Disk.Queue = append(k.Disk.Queue, api.Request{Tid: n})
	case 6:
		if len(k.Disk.Queue) > 0 {
			r := &k.Disk.Queue[m.Intn(len(k.Disk.Queue))]
			*pick(m, &r.Tid, &r.Block) = n
		}
	case 7:
		k.Disk.Blocks = k.Disk.Blocks[1:]
	case 8:
		k.Sched.Quantum = n
	}
}

// P6.1 (K1): the first state of a configuration.
func TestNew(t *testing.T) {
	b := bootOf("29", "3: nop", "0: sys 1", "7: nop")
	b.Programs[1].Start, b.Programs[1].Stack = -5, math.MaxInt64
	b.Programs[2].Name, b.Programs[2].Syms = "other", []api.Sym{{Name: "f", At: 3, Size: 4}}
	k, e := kernel.New(b)
	want := api.Kern{
		Procs:   []api.Proc{{Name: "p", Space: programOf("3: nop").Space}, {Name: "p", Space: programOf("0: sys 1").Space}, {Name: "other", Space: programOf("7: nop").Space, Syms: []api.Sym{{Name: "f", At: 3, Size: 4}}}},
		Threads: []api.Thread{{Pid: 0, Sys: -1}, {Pid: 1, Sys: -1}, {Pid: 2, Sys: -1}},
		Clocks:  []api.Clock{{Rate: 2}, {Rate: 9}},
		Sched:   api.Sched{Quantum: 4, Threads: []api.Slot{{Pri: 3, State: api.StReady}, {Pri: 0, Cpu: 1, State: api.StReady}, {Pri: 7, State: api.StReady}}, Cpus: []api.CpuQ{{Run: -1, Ready: []int{2, 0}}, {Run: -1, Ready: []int{1}}}},
		Disk:    api.Disk{Blocks: blocks(3)},
	}
	want.Threads[0].Regs.R[7], want.Threads[1].Regs.R[7], want.Threads[1].Regs.Pc, want.Threads[2].Regs.R[7] = 192, math.MaxInt64, -5, 192
	if e != api.OK || !equal(k, want) {
		t.Errorf("New is %d\n%s; want\n%s", e, show(k), show(want))
	}
}

// P6.1 (K1): configurations at their limits.
func TestNewAtTheLimits(t *testing.T) {
	b := bootOf("1991", "0: nop", "1: nop", "2: nop", "3: nop", "4: nop", "5: nop", "6: nop", "7: nop")
	for _, blocks := range []int{1, 16} {
		for _, quantum := range []int{1, 20} {
			b.Blocks, b.Quantum = blocks, quantum
			k, e := kernel.New(b)
			if e != api.OK || len(k.Procs) != 8 || len(k.Clocks) != 4 || len(k.Disk.Blocks) != blocks || k.Sched.Quantum != quantum || kernel.Check(k) != api.OK {
				t.Errorf("New of %d blocks, Quantum %d is %d\n%s", blocks, quantum, e, show(k))
			}
			for tid := range k.Threads {
				if s := k.Sched.Threads[tid]; s != (api.Slot{Pri: tid, Cpu: tid % 4, State: api.StReady}) || k.Threads[tid].Pid != tid {
					t.Errorf("thread %d is %v", tid, s)
				}
			}
		}
	}
}

// P6.1 (K1): what is no configuration.
func TestNewOfBrokenConfigurations(t *testing.T) {
	for name, change := range map[string]func(b *api.Boot){
		"no rates":  func(b *api.Boot) { b.Rates = nil },
		"5 rates":   func(b *api.Boot) { b.Rates = []int64{1, 1, 1, 1, 1} },
		"rates":     func(b *api.Boot) { b.Rates = slices.Repeat([]int64{1}, 100000) },
		"rate 0":    func(b *api.Boot) { b.Rates[1] = 0 },
		"rate 10":   func(b *api.Boot) { b.Rates[0] = 10 },
		"rate -1":   func(b *api.Boot) { b.Rates[0] = -1 },
		"rate max":  func(b *api.Boot) { b.Rates[0] = math.MaxInt64 },
		"none":      func(b *api.Boot) { b.Programs = nil },
		"9":         func(b *api.Boot) { b.Programs = slices.Repeat(b.Programs[:1], 9) },
		"16":        func(b *api.Boot) { b.Programs = slices.Repeat(b.Programs[:1], 16) },
		"17":        func(b *api.Boot) { b.Programs = slices.Repeat(b.Programs[:1], 17) },
		"many":      func(b *api.Boot) { b.Programs = slices.Repeat(b.Programs[:1], 100000) },
		"pri -1":    func(b *api.Boot) { b.Programs[1].Pri = -1 },
		"pri 8":     func(b *api.Boot) { b.Programs[0].Pri = 8 },
		"pri max":   func(b *api.Boot) { b.Programs[0].Pri = math.MaxInt },
		"blocks 0":  func(b *api.Boot) { b.Blocks = 0 },
		"blocks 17": func(b *api.Boot) { b.Blocks = 17 },
		"blocks -1": func(b *api.Boot) { b.Blocks = math.MinInt },
		"blocks":    func(b *api.Boot) { b.Blocks = math.MaxInt },
		"quantum 0": func(b *api.Boot) { b.Quantum = 0 },
		"quantum":   func(b *api.Boot) { b.Quantum = 21 },
		"q -1":      func(b *api.Boot) { b.Quantum = math.MinInt },
		"name":      func(b *api.Boot) { b.Programs[1].Name = "" },
		"name 32":   func(b *api.Boot) { b.Programs[1].Name = strings.Repeat("n", 32) },
		"blank":     func(b *api.Boot) { b.Programs[0].Name = "a b" },
		"space":     func(b *api.Boot) { b.Programs[1].Space.Perm[1] = 5 },
		"bytes":     func(b *api.Boot) { b.Programs[0].Space.Bytes = nil },
		"symbol":    func(b *api.Boot) { b.Programs[0].Syms = []api.Sym{{Name: "f", At: 0, Size: 0}} },
		"names":     func(b *api.Boot) { b.Programs[0].Syms = []api.Sym{{Name: "f", Size: 1}, {Name: "f", At: 1, Size: 1}} },
		"symbols":   func(b *api.Boot) { b.Programs[1].Syms = symbolsOf(33) },
		"all":       func(b *api.Boot) { *b = api.Boot{Rates: []int64{0, 0, 0, 0, 0}, Blocks: -1, Quantum: -1} },
	} {
		b := bootOf("12", "3: nop", "3: nop")
		change(&b)
		if k, e := kernel.New(b); e != api.ErrBoot || !isZero(k) {
			t.Errorf("%s: New is %d\n%s", name, e, show(k))
		}
	}
	if k, e := kernel.New(api.Boot{}); e != api.ErrBoot || !isZero(k) {
		t.Errorf("the zero value: New is %d", e)
	}
}

// P6.1 (K6): Same of states that differ in one field alone, valid or not, with nil and empty lists the same.
func TestSame(t *testing.T) {
	states := []api.Kern{base(), {}}
	for _, c := range append(append(brokenProcs(), brokenParts()...), kept()...) {
		if strings.HasPrefix(c.name, "many") {
			continue // this takes long
		}
		k := base()
		c.make(&k)
		states = append(states, k)
	}
	m := newMaker()
	for range 30 {
		states = append(states, m.valid())
	}
	for _, change := range differences() {
		k := base()
		change(&k)
		states = append(states, k)
		if kernel.Same(k, base()) || kernel.Same(base(), k) {
			t.Errorf("Same of the base and\n%s", show(k))
		}
	}
	for i, a := range states {
		if !kernel.Same(a, a) || !kernel.Same(a, plain(a)) || !kernel.Same(roomy(a), a) {
			t.Errorf("Same of a copy of\n%s", show(a))
		}
		if i%16 != 0 {
			continue
		}
		for _, b := range states {
			if got := kernel.Same(a, b); got != equal(a, b) {
				t.Errorf("Same is %v of\n%s\nand\n%s", got, show(a), show(b))
			}
		}
	}
	if !kernel.Same(api.Kern{}, api.Kern{Procs: []api.Proc{}, Threads: []api.Thread{}, Clocks: []api.Clock{}, Sched: api.Sched{Cpus: []api.CpuQ{}}, Disk: api.Disk{Blocks: [][]byte{}, Queue: []api.Request{}}}) {
		t.Error("nil and empty lists differ")
	}
	if !kernel.Same(api.Kern{Disk: api.Disk{Blocks: [][]byte{nil}}}, api.Kern{Disk: api.Disk{Blocks: [][]byte{{}}}}) {
		t.Error("a nil and an empty block differ")
	}
}

// differences are changes of one field alone.
func differences() []func(k *api.Kern) {
	return []func(k *api.Kern){
		func(k *api.Kern) { k.Procs[2].Name = "Third" }, func(k *api.Kern) { k.Procs[1].Space.Perm[5] = 1 }, func(k *api.Kern) { k.Procs[1].Space.Bytes[383] = 1 },
		func(k *api.Kern) { k.Procs[0].Syms[2].Name = "date" }, func(k *api.Kern) { k.Procs[0].Syms[2].At = 11 }, func(k *api.Kern) { k.Procs[0].Syms[2].Size = 117 }, func(k *api.Kern) { k.Procs[0].Syms = k.Procs[0].Syms[:2] },
		func(k *api.Kern) { k.Procs[2].Dead = false }, func(k *api.Kern) { k.Procs[2].Status = 8 }, func(k *api.Kern) { k.Procs = k.Procs[:2] },
		func(k *api.Kern) { k.Threads[9].Pid = 1 }, func(k *api.Kern) { k.Threads[9].Regs.R[7] = 1 }, func(k *api.Kern) { k.Threads[9].Regs.R[0] = 1 }, func(k *api.Kern) { k.Threads[9].Regs.Pc = 1 },
		func(k *api.Kern) { k.Threads[9].Wait = 1 }, func(k *api.Kern) { k.Threads[9].Chan = 1 }, func(k *api.Kern) { k.Threads[9].Sys = 1 }, func(k *api.Kern) { k.Threads = k.Threads[:9] },
		func(k *api.Kern) { k.Clocks[1].Now = 1 }, func(k *api.Kern) { k.Clocks[1].Rate = 1 }, func(k *api.Kern) { k.Clocks = k.Clocks[:1] },
		func(k *api.Kern) { k.Sched.Quantum = 5 }, func(k *api.Kern) { k.Sched.Cpus[1].Ready = nil }, func(k *api.Kern) { k.Sched.Cpus[1].Left = 3 }, func(k *api.Kern) { k.Sched.Threads[9].Pri = 1 },
		func(k *api.Kern) { k.Disk.Blocks[2][15] = 1 }, func(k *api.Kern) { k.Disk.Blocks = k.Disk.Blocks[:2] }, func(k *api.Kern) { k.Disk.Blocks[2] = k.Disk.Blocks[2][:15] },
		func(k *api.Kern) { k.Disk.Queue[1].Tid = 3 }, func(k *api.Kern) { k.Disk.Queue[1].Block = 1 }, func(k *api.Kern) { k.Disk.Queue[1].Write = true }, func(k *api.Kern) { k.Disk.Queue[1].At = 1 }, func(k *api.Kern) { k.Disk.Queue = k.Disk.Queue[:1] },
	}
}

// P6.1 (K4): Current and Space, of what there is and of what there is not.
func TestCurrentAndSpace(t *testing.T) {
	k := base()
	k.Sched.Cpus[0], k.Sched.Threads[0].State = api.CpuQ{Run: -1, Ready: []int{0, 1}}, api.StReady
	for cpu, want := range []int{-1, 2} {
		if tid, e := kernel.Current(k, cpu); tid != want || e != api.OK {
			t.Errorf("Current of %d is %d, %d", cpu, tid, e)
		}
	}
	for pid := range k.Procs {
		if s, e := kernel.Space(k, pid); e != api.OK || !equal(s, k.Procs[pid].Space) {
			t.Errorf("Space of %d is %v, %d", pid, s, e)
		}
	}
	for _, n := range []int{-1, 3, 9, math.MinInt, math.MaxInt, 1 << 32} {
		if tid, e := kernel.Current(k, n); tid != 0 || e != api.ErrNone {
			t.Errorf("Current of %d is %d, %d", n, tid, e)
		}
		if s, e := kernel.Space(k, n); e != api.ErrNone || !isZero(s) {
			t.Errorf("Space of %d is %v, %d", n, s, e)
		}
	}
	if tid, e := kernel.Current(k, 2); tid != 0 || e != api.ErrNone {
		t.Errorf("Current of the third of two processors is %d, %d", tid, e)
	}
}
