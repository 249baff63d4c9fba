package kernel_test

import (
	"bytes"
	"math"
	"slices"
	"testing"

	"tapline/api"
	"tapline/cpu"
	"tapline/kernel"
)

// P6.1 (K2): the chapter's example.
func TestExample(t *testing.T) {
	b := bootOf("2", "3: sys 2; nop")
	b.Programs[0].Stack, b.Programs[0].Space = 128, api.Space{Perm: []int{api.PmExec, api.PmRead + api.PmWrite}, Bytes: make([]byte, 128)}
	copy(b.Programs[0].Space.Bytes, codeOf("sys 2; nop"))
	b.Blocks = 2
	k, _ := kernel.New(b)
	s := &scene{k, t}
	s.do("s0", "on 0 3")
	expect(t, "Left", s.Sched.Cpus[0].Left == 4)
	s.do("s0", "insn 0@0 sys; entry 0 tid 0 0 0; return 0 tid 0")
	s.do("s0", "insn 0@2 nop")
	s.do("s0", "fault 0@3 4 0 0; exit 0 132; off 0 dead")
	expect(t, "the process", s.Procs[0].Dead && s.Procs[0].Status == 132 && s.Clocks[0].Now == 8)
	s.do("t0", "tick -1")
	s.do("d0", "")
	expect(t, "the clock", s.Clocks[0].Now == 12)
}

// P6.1 (K2): PkStep of an idle processor: nothing to do, a thread that is ready, and one that is stolen.
func TestStepOfAnIdleProcessor(t *testing.T) {
	s := newScene(t, "25", "3: nop; nop; nop")
	ahead := clone(s.Kern)
	s.do("s1", "")
	ahead.Clocks[1].Now = 5
	expect(t, "nothing but the clock", equal(s.Kern, ahead))
	s.do("s0", "on 0 3")
	s.do("s1", "")
	s = newScene(t, "25", "3: nop", "3: nop", "4: nop", "2: nop")
	s.do("s1", "on 1 3")
	s.Sched = api.Sched{Quantum: 4, Threads: []api.Slot{{Pri: 3, State: 1}, {Pri: 3, State: 1}, {Pri: 4, State: 2}, {Pri: 2, State: 1}}, Cpus: []api.CpuQ{{Run: 2, Left: 4, Ready: []int{0, 1, 3}}, {Run: -1}}}
	s.do("s1", "enqueue 0 1 3; on 0 3")
	s.is(0, "0/0 run 1 pri 3 r0 0 pc 0")
	s.do("s1", "insn 0@0 nop")
	s = newScene(t, "111", "3: nop", "3: nop", "4: nop", "2: nop")
	s.do("s0 s1 s2", "on 0 3; on 1 3; on 2 4")
	s.skip("s2 s2")
	s.do("s2", "enqueue 3 2 2; on 3 2")
	s.skip("s2 s2 s2")
	s.do("s2", "")
}

// P6.1 (K2): PkStep where a switch is due: the thread that ran goes to the front if it is preempted, to the end if its slice is used up.
func TestStepWithASwitch(t *testing.T) {
	s := newScene(t, "2", "3: nop; nop; nop; nop", "3: nop; nop; nop; nop", "3: nop; nop; nop; nop", "5: lit r0, 1; sys 5")
	s.do("s0", "on 3 5")
	s.do("s0 s0", "insn 3@0 lit; insn 3@3 sys; entry 3 pri 1 0 0; return 3 pri 5")
	s.do("s0", "off 3 ready; enqueue 3 0 1; on 0 3")
	s.do("t0 s0 t0 t0", "tick 0; insn 0@0 nop; tick 0; tick 0")
	expect(t, "Left", s.Sched.Cpus[0].Left == 1)
	s.do("s0 t0 t0", "insn 0@1 nop; tick 0; tick 0")
	s.do("s0", "off 0 ready; enqueue 0 0 3; on 1 3")
	expect(t, "Ready", slices.Equal(s.Sched.Cpus[0].Ready, []int{2, 0, 3}))
	s.Sched.Threads[3].Pri, s.Sched.Cpus[0].Ready = 7, []int{3, 2, 0}
	s.do("s0", "off 1 ready; enqueue 1 0 3; on 3 7")
	expect(t, "Ready", slices.Equal(s.Sched.Cpus[0].Ready, []int{1, 2, 0}))
}

// P6.1 (K2): PkStep of a thread whose slice is used up, with no other one of its priority: the slice begins anew, and the thread executes an instruction.
func TestStepWithANewSlice(t *testing.T) {
	for _, programs := range [][]string{{"3: nop; nop"}, {"3: nop; nop", "2: nop; nop"}} {
		s := newScene(t, "2", programs...)
		s.skip("s0 t0 t0 t0 t0")
		expect(t, "Left", s.Sched.Cpus[0].Left == 0)
		s.do("s0", "insn 0@0 nop")
		expect(t, "Left", s.Sched.Cpus[0].Left == 4)
		s.do("t0 s0", "tick 0; insn 0@1 nop")
		expect(t, "Left", s.Sched.Cpus[0].Left == 3)
	}
}

// P6.1 (K2): PkTimer with and without a running thread, and with a slice that is used up.
func TestTimer(t *testing.T) {
	s := newScene(t, "3", "3: nop", "3: nop")
	ahead := clone(s.Kern)
	s.do("t0", "tick -1")
	ahead.Clocks[0].Now = 3
	expect(t, "nothing but the clock", equal(s.Kern, ahead))
	s.do("s0 t0 t0 t0 t0", "on 0 3; tick 0; tick 0; tick 0; tick 0")
	ahead = clone(s.Kern)
	expect(t, "Left", s.Sched.Cpus[0].Left == 0)
	s.do("t0", "tick 0")
	ahead.Clocks[0].Now += 3
	expect(t, "nothing but the clock", equal(s.Kern, ahead))
	s = newScene(t, "39", "3: nop", "3: nop")
	s.do("s1 t1 t0", "on 1 3; tick 1; tick -1")
	expect(t, "the clocks", s.Clocks[0].Now == 3 && s.Clocks[1].Now == 18)
	expect(t, "Left", s.Sched.Cpus[0].Left == 0 && s.Sched.Cpus[1].Left == 3)
}

// P6.1 (K2): stores, and what they leave as it is.
func TestStores(t *testing.T) {
	s := newScene(t, "2", "3: set r1, 130; set r2, 258; store8 [r1+1], r2; store1 [r1+9], r2; push r2; call .-20")
	s.skip("s0 s0 s0")
	s.do("s0", "insn 0@24 store8")
	want := make([]byte, 256)
	want[3], want[4] = 2, 1
	expect(t, "store8", bytes.Equal(s.Procs[0].Space.Bytes[dataAt:], want))
	s.do("s0", "insn 0@27 store1")
	want[11] = 2
	expect(t, "store1", bytes.Equal(s.Procs[0].Space.Bytes[dataAt:], want))
	s.do("s0", "insn 0@30 push")
	want[56], want[57] = 2, 1
	s.do("s0", "insn 0@32 call")
	want[48] = 35
	expect(t, "push and call", bytes.Equal(s.Procs[0].Space.Bytes[dataAt:], want) && s.Threads[0].Regs.Pc == 15 && s.Threads[0].Regs.R[api.SP] == fixedAt-16)
}

// crowd is a scene in which thread 0 of process 0 runs on processor 0; it has threads that run on processor 1, are ready, sleep, wait for the device and are stopped, and one that has ended; process 1 has others.
func crowd(t *testing.T, code string) *scene {
	s := newScene(t, "12", "3: "+code, "3: nop; nop")
	k := &s.Kern
	k.Threads = nil
	k.Sched = api.Sched{Quantum: 4, Cpus: []api.CpuQ{{Run: 0, Left: 3, Ready: []int{2, 7, 9}}, {Run: 1, Left: 2, Ready: []int{8, 10}}}}
	add := func(pid, state, pri, cpu int, rest api.Thread) {
		rest.Pid = pid
		if rest.Wait == 0 || rest.Wait == api.WtStop {
			rest.Sys = -1
		}
		k.Threads = append(k.Threads, rest)
		k.Sched.Threads = append(k.Sched.Threads, api.Slot{Pri: pri, Cpu: cpu, State: state})
	}
	add(0, api.StRun, 3, 0, api.Thread{})
	add(0, api.StRun, 3, 1, api.Thread{})
	add(0, api.StReady, 3, 0, api.Thread{})
	add(0, api.StBlock, 3, 1, api.Thread{Wait: api.WtSleep, Chan: 7, Sys: api.SysSleep})
	add(0, api.StBlock, 3, 0, api.Thread{Wait: api.WtIo, Sys: api.SysRead})
	add(0, api.StBlock, 3, 0, api.Thread{Wait: api.WtStop})
	add(0, api.StDead, 3, 0, api.Thread{})
	add(1, api.StReady, 3, 0, api.Thread{})
	add(0, api.StReady, 4, 1, api.Thread{})
	add(0, api.StReady, 2, 0, api.Thread{})
	add(1, api.StReady, 1, 1, api.Thread{})
	add(1, api.StBlock, 1, 1, api.Thread{Wait: api.WtIo, Sys: api.SysWrite})
	add(1, api.StBlock, 1, 1, api.Thread{Wait: api.WtSleep, Chan: 7, Sys: api.SysSleep})
	k.Disk.Queue = []api.Request{{Tid: 4, Block: 1, At: dataAt}, {Tid: 11, Block: 2, Write: true, At: dataAt}}
	if e := kernel.Check(*k); e != api.OK {
		t.Fatalf("the crowd is not valid: %d", e)
	}
	return s
}

// P6.1 (K2): the traps of each kind kill the process, with its threads wherever they are.
func TestTraps(t *testing.T) {
	for _, c := range []struct {
		code, fault string
		status      int64
	}{
		{"break", "fault 0@0 2 0 0", 130}, {"load8 r1, [r2-1]", "fault 0@0 3 1 -1", 131}, {"load1 r1, [r2+0]", "fault 0@0 3 2 0", 131}, {"store1 [r2+0], r1", "fault 0@0 3 3 0", 131},
		{"div r1, r2", "fault 0@0 5 0 0", 133}, {"mod r1, r2", "fault 0@0 5 0 0", 133}, {"push r1", "fault 0@0 3 1 -8", 131}, {"ret", "fault 0@0 3 2 0", 131},
	} {
		s := crowd(t, c.code)
		regs := s.Threads[0].Regs
		status := map[int64]string{130: "130", 131: "131", 133: "133"}[c.status]
		s.do("s0", c.fault+"; exit 0 "+status+"; off 0 dead; exit 1 "+status+"; off 1 dead; exit 2 "+status+"; exit 3 "+status+"; exit 4 "+status+"; exit 5 "+status+"; exit 8 "+status+"; exit 9 "+status)
		expect(t, "the process", s.Procs[0].Dead && s.Procs[0].Status == c.status && !s.Procs[1].Dead)
		expect(t, "the requests", slices.Equal(s.Disk.Queue, []api.Request{{Tid: 11, Block: 2, Write: true, At: dataAt}}))
		expect(t, "the registers", s.Threads[0].Regs == regs)
		expect(t, "the queues", equal(s.Sched.Cpus, []api.CpuQ{{Run: -1, Ready: []int{7}}, {Run: -1, Ready: []int{10}}}))
		s.is(3, "0/3 dead 1 pri 3 r0 0 pc 0")
		s.is(4, "0/4 dead 0 pri 3 r0 0 pc 0")
		s.is(12, "1/12 block 1 pri 1 r0 0 pc 0 wait 1 chan 7 sys 6")
	}
	s := newScene(t, "1", "3: nop")
	s.Procs[0].Space.Bytes[0] = 7
	s.do("s0 s0", "on 0 3; fault 0@0 4 0 0; exit 0 132; off 0 dead")
	s = newScene(t, "1", "3: nop")
	s.Threads[0].Regs.Pc = -3
	s.do("s0 s0", "on 0 3; fault 0@-3 3 1 -3; exit 0 131; off 0 dead")
	s = newScene(t, "1", "3: nop")
	s.Threads[0].Regs.Pc = dataAt
	s.do("s0 s0", "on 0 3; fault 0@128 3 4 128; exit 0 131; off 0 dead")
	s.do("s0", "")
}

// P6.1 (K2): PkDisk with an empty Queue, requests that are done in order, and on another processor than that of the thread.
func TestDisk(t *testing.T) {
	s := newScene(t, "25", "4: lit r0, 1; set r1, 184; sys 9; nop", "3: lit r0, 1; set r1, 320; sys 8; nop")
	s.do("d0 d1", "")
	copy(s.Procs[0].Space.Bytes[184:], "ABCDEFGHIJKLMNOP")
	s.skip("s0 s0 s0 s1 s1 s1")
	s.do("s1", "insn 1@15 sys; entry 1 read 1 320 0; start 1 1 0; off 1 block")
	s.do("s0", "insn 0@15 sys; entry 0 write 1 184 0; start 0 1 1; off 0 block")
	s.is(0, "0/0 block 0 pri 4 r0 1 pc 17 wait 2 chan 0 sys 9")
	s.is(1, "1/1 block 1 pri 3 r0 1 pc 17 wait 2 chan 0 sys 8")
	expect(t, "the requests", slices.Equal(s.Disk.Queue, []api.Request{{Tid: 1, Block: 1, At: 320}, {Tid: 0, Block: 1, Write: true, At: 184}}))
	s.do("d0", "done 1 1 0; enqueue 1 1 3; return 1 read 0")
	s.is(1, "1/1 ready 1 pri 3 r0 0 pc 17")
	expect(t, "what was read", bytes.Equal(s.Procs[1].Space.Bytes[320:336], make([]byte, 16)))
	s.do("d1", "done 0 1 1; enqueue 0 0 4; return 0 write 0")
	expect(t, "the block", string(s.Disk.Blocks[1]) == "ABCDEFGHIJKLMNOP" && bytes.Equal(s.Disk.Blocks[0], make([]byte, 16)))
	s.do("d0", "")
	s = newScene(t, "2", "3: lit r0, 2; set r1, 321; sys 8")
	copy(s.Disk.Blocks[2], "abcdefghijklmnop")
	s.skip("s0 s0 s0 s0")
	s.do("d0", "done 0 2 0; enqueue 0 0 3; return 0 read 0")
	expect(t, "what was read", string(s.Procs[0].Space.Bytes[320:338]) == "\x00abcdefghijklmnop\x00" && string(s.Disk.Blocks[2]) == "abcdefghijklmnop")
}

// P6.1 (K2): requests whose address may no longer be accessed when they are served.
func TestDiskWithoutPermission(t *testing.T) {
	for _, c := range []struct {
		call      string
		at        int64
		perm      [6]int
		result    string
		blockSets bool
	}{
		{"9", 128, [6]int{4, 4, 1, 1, 0, 3}, "0", true}, {"9", 128, [6]int{4, 4, 0, 1, 0, 3}, "-1", false}, {"9", 184, [6]int{4, 4, 3, 0, 0, 3}, "-1", false}, {"9", 184, [6]int{4, 4, 0, 1, 0, 3}, "-1", false}, {"9", 176, [6]int{4, 4, 3, 0, 0, 3}, "0", true},
		{"8", 128, [6]int{4, 4, 1, 1, 0, 3}, "-1", false}, {"8", 128, [6]int{4, 4, 0, 1, 0, 3}, "-1", false}, {"8", 176, [6]int{4, 4, 3, 0, 0, 0}, "0", false}, {"8", 320, [6]int{4, 4, 3, 1, 0, 1}, "-1", false}, {"8", 368, [6]int{4, 4, 0, 0, 0, 3}, "0", false},
	} {
		s := newScene(t, "2", "3: lit r0, 1; set r1, 128; sys "+c.call)
		s.skip("s0 s0 s0")
		s.Threads[0].Regs.R[1] = c.at
		s.skip("s0")
		copy(s.Disk.Blocks[1], "0123456789abcdef")
		copy(s.Procs[0].Space.Bytes[c.at:], "ABCDEFGHIJKLMNOP")
		s.Procs[0].Space.Perm = c.perm[:]
		name, write := "read", "0"
		if c.call == "9" {
			name, write = "write", "1"
		}
		s.do("d0", "done 0 1 "+write+"; enqueue 0 0 3; return 0 "+name+" "+c.result)
		expect(t, "the block", (string(s.Disk.Blocks[1]) == "ABCDEFGHIJKLMNOP") == c.blockSets)
		expect(t, "the memory", (string(s.Procs[0].Space.Bytes[c.at:c.at+16]) == "0123456789abcdef") == (c.call == "8" && c.result == "0"))
	}
}

// P6.1: several errors at once, in their order; a clock that would be above MaxTime.
func TestErrorsOfTransitions(t *testing.T) {
	k := newScene(t, "92", "3: nop", "3: nop").Kern
	bad := api.Effect{At: 4}
	for _, p := range []api.Pick{{Cpu: -1}, {Cpu: 2}, {Cpu: math.MinInt}, {Cpu: math.MaxInt}, {Kind: -1}, {Kind: 3}, {Kind: math.MinInt}, {Kind: math.MaxInt}, {Cpu: 4, Kind: 4}, {Cpu: 1 << 32}} {
		late := clone(k)
		late.Clocks[0].Now, late.Clocks[1].Now = 1<<40, 1<<40
		for _, k := range []api.Kern{k, late} {
			refusedBy(t, k, p, bad, api.ErrPick)
			if tid, e := kernel.Executes(k, p); tid != 0 || e != api.ErrPick {
				t.Errorf("Executes of %v is %d, %d", p, tid, e)
			}
		}
	}
	for now, want := range map[int64]api.Errno{1<<40 - 9: api.OK, 1<<40 - 8: api.ErrLong, 1 << 40: api.ErrLong} {
		late := clone(k)
		late.Clocks[0].Now = now
		for _, kind := range []int{0, 1, 2} {
			p := api.Pick{Kind: kind}
			if want != api.OK {
				refusedBy(t, late, p, bad, want)
				continue
			}
			if k, _, e := kernel.Step(late, p); e != api.OK || k.Clocks[0].Now != 1<<40 || k.Clocks[1].Now != 0 {
				t.Errorf("%v at %d: error %d", p, now, e)
			}
		}
		if _, _, e := kernel.Step(late, api.Pick{Cpu: 1}); e != api.OK {
			t.Errorf("another processor at %d: error %d", now, e)
		}
	}
}

// refusedBy expects Step, Apply and Run to return an error, and nothing else.
func refusedBy(t *testing.T, k api.Kern, p api.Pick, x api.Effect, want api.Errno) {
	t.Helper()
	next, events, e := kernel.Step(k, p)
	expect(t, "Step", e == want && isZero(next) && len(events) == 0)
	next, events, e = kernel.Apply(k, p, x)
	expect(t, "Apply", e == want && isZero(next) && len(events) == 0)
	next, events, e = kernel.Run(k, []api.Pick{{Cpu: 1, Kind: 1}, p, {Cpu: 7}})
	if k.Clocks[1].Now < 1<<40 {
		expect(t, "Run", e == want && isZero(next) && len(events) == 0)
	}
}

// P6.1 (K3): Run of 0, 2000 and 2001 picks, and the first error of several.
func TestRun(t *testing.T) {
	k := newScene(t, "92", "3: jump .-3", "3: jump .-3").Kern
	next, events, e := kernel.Run(k, nil)
	if e != api.OK || !equal(next, k) || len(events) != 0 {
		t.Errorf("Run of no picks is %d, %v", e, events)
	}
	next, events, e = kernel.Run(k, make([]api.Pick, 2000))
	if e != api.OK || next.Clocks[0].Now != 18000 || len(events) != 2000 || events[1999].Time != 18000-9 {
		t.Errorf("Run of 2000 picks is %d, with %d events", e, len(events))
	}
	for _, n := range []int{2001, 3000, 1000000} {
		l := make([]api.Pick, n)
		l[0].Cpu = -1
		if next, events, e = kernel.Run(k, l); e != api.ErrLong || !isZero(next) || len(events) != 0 {
			t.Errorf("Run of %d picks is %d", n, e)
		}
	}
	late := clone(k)
	late.Clocks[1].Now = 1<<40 - 3
	for _, c := range []struct {
		picks []api.Pick
		want  api.Errno
	}{
		{[]api.Pick{{Cpu: 1}, {Cpu: 0}}, api.OK}, {[]api.Pick{{Cpu: 1}, {Cpu: 1}, {Cpu: 2}}, api.ErrLong}, {[]api.Pick{{Cpu: 1}, {Cpu: 2}, {Cpu: 1}}, api.ErrPick},
		{[]api.Pick{{Kind: 5}}, api.ErrPick}, {[]api.Pick{{}, {}, {Kind: -1}}, api.ErrPick},
	} {
		next, events, e := kernel.Run(late, c.picks)
		if e != c.want || e != api.OK && (!isZero(next) || len(events) != 0) {
			t.Errorf("Run of %v is %d", c.picks, e)
		}
	}
}

// P6.1 (K2): Apply with effects that are given: registers, stores, system calls and traps.
func TestApply(t *testing.T) {
	regs := api.Regs{R: [8]int64{1, 2, 3, 4, 5, 6, 7, 8}, Pc: 77}
	for _, c := range []struct {
		effect api.Effect
		events string
		thread string
	}{
		{api.Effect{Regs: regs}, "insn 0@0 ", "0/0 run 0 pri 3 r0 1 pc 77"},
		{api.Effect{Regs: regs, Insn: api.Insn{Op: api.InAdd, A: 99}}, "insn 0@0 add", "0/0 run 0 pri 3 r0 1 pc 77"},
		{api.Effect{Regs: regs, At: 191, Data: []byte{5}}, "insn 0@0 ", "0/0 run 0 pri 3 r0 1 pc 77"},
		{api.Effect{Regs: regs, Trap: api.Trap{Kind: api.TrSys, N: api.SysPid}}, "insn 0@0 ; entry 0 pid 1 2 3; return 0 pid 0", "0/0 run 0 pri 3 r0 0 pc 77"},
		{api.Effect{Regs: regs, Trap: api.Trap{Kind: api.TrSys, N: 13}}, "insn 0@0 ; entry 0 13 1 2 3; return 0 13 -1", "0/0 run 0 pri 3 r0 -1 pc 77"},
		{api.Effect{Regs: regs, Trap: api.Trap{Kind: api.TrSys, N: -1}}, "insn 0@0 ; entry 0 -1 1 2 3; return 0 -1 -1", "0/0 run 0 pri 3 r0 -1 pc 77"},
		{api.Effect{Regs: regs, Trap: api.Trap{Kind: api.TrSys, N: math.MinInt}}, "insn 0@0 ; entry 0 -9223372036854775808 1 2 3; return 0 -9223372036854775808 -1", "0/0 run 0 pri 3 r0 -1 pc 77"},
		{api.Effect{Regs: regs, Trap: api.Trap{Kind: api.TrSys, N: 1 << 32}}, "insn 0@0 ; entry 0 4294967296 1 2 3; return 0 4294967296 -1", "0/0 run 0 pri 3 r0 -1 pc 77"},
		{api.Effect{Regs: regs, Trap: api.Trap{Kind: api.TrBreak}}, "fault 0@0 2 0 0; exit 0 130; off 0 dead", "0/0 dead 0 pri 3 r0 9 pc 0"},
		{api.Effect{Regs: regs, Trap: api.Trap{Kind: api.TrFault, Fault: api.Fault{Kind: 44, At: -55}}}, "fault 0@0 3 44 -55; exit 0 131; off 0 dead", "0/0 dead 0 pri 3 r0 9 pc 0"},
		{api.Effect{Regs: regs, Trap: api.Trap{Kind: api.TrIllegal, N: 6}}, "fault 0@0 4 0 0; exit 0 132; off 0 dead", "0/0 dead 0 pri 3 r0 9 pc 0"},
		{api.Effect{Regs: regs, Trap: api.Trap{Kind: api.TrDivide, Fault: api.Fault{Kind: 1, At: 2}}}, "fault 0@0 5 1 2; exit 0 133; off 0 dead", "0/0 dead 0 pri 3 r0 9 pc 0"},
	} {
		s := newScene(t, "2", "3: nop")
		s.skip("s0")
		s.Threads[0].Regs.R[0] = 9
		k, events, e := kernel.Apply(s.Kern, api.Pick{}, c.effect)
		if e != api.OK || showEvents(events) != c.events || showThread(k, 0) != c.thread || k.Clocks[0].Now != 4 {
			t.Errorf("Apply of %v: %d, %s, %s", c.effect, e, showEvents(events), showThread(k, 0))
		}
		stored := clone(s.Procs[0].Space.Bytes)
		copy(stored[c.effect.At:], c.effect.Data)
		expect(t, "the store", bytes.Equal(k.Procs[0].Space.Bytes, stored))
	}
}

// P6.1 (K2): Apply with effects that cpu.Apply does not take, and with kinds of traps that there are not: just if an instruction is executed.
func TestApplyOfBrokenEffects(t *testing.T) {
	s := newScene(t, "29", "3: nop", "3: nop")
	s.skip("s0")
	store := []byte{1}
	for _, c := range []struct {
		effect api.Effect
		want   api.Errno
	}{
		{api.Effect{At: 1}, api.ErrEffect}, {api.Effect{At: dataAt}, api.ErrEffect}, {api.Effect{Data: store}, api.ErrEffect}, {api.Effect{At: fixedAt, Data: store}, api.ErrEffect}, {api.Effect{At: noneAt, Data: store}, api.ErrEffect}, {api.Effect{At: spaceTo, Data: store}, api.ErrEffect}, {api.Effect{At: -1, Data: store}, api.ErrEffect},
		{api.Effect{At: dataAt, Data: make([]byte, 9)}, api.ErrEffect}, {api.Effect{At: fixedAt - 1, Data: make([]byte, 2)}, api.ErrEffect},
		{api.Effect{At: dataAt, Data: store, Trap: api.Trap{Kind: api.TrSys}}, api.ErrEffect}, {api.Effect{At: dataAt, Data: store, Trap: api.Trap{Kind: api.TrDivide}}, api.ErrEffect}, {api.Effect{At: dataAt, Data: store, Trap: api.Trap{Kind: 6}}, api.ErrEffect}, {api.Effect{At: 3, Trap: api.Trap{Kind: -1}}, api.ErrEffect},
		{api.Effect{Trap: api.Trap{Kind: 6}}, api.ErrArg}, {api.Effect{Trap: api.Trap{Kind: -1}}, api.ErrArg}, {api.Effect{Trap: api.Trap{Kind: math.MinInt}}, api.ErrArg}, {api.Effect{Trap: api.Trap{Kind: math.MaxInt, N: 3}}, api.ErrArg},
	} {
		k, events, e := kernel.Apply(s.Kern, api.Pick{}, c.effect)
		if e != c.want || !isZero(k) || len(events) != 0 {
			t.Errorf("Apply of %v: %d, %s", c.effect, e, showEvents(events))
		}
		late := clone(s.Kern)
		late.Clocks[0].Now = 1 << 40
		if k, _, e := kernel.Apply(late, api.Pick{}, c.effect); e != api.ErrLong || !isZero(k) {
			t.Errorf("Apply of %v at the end of time: %d", c.effect, e)
		}
		for _, p := range []api.Pick{{Kind: api.PkTimer}, {Kind: api.PkDisk}, {Cpu: 1}, {Cpu: 1, Kind: api.PkTimer}} {
			k, events, e := kernel.Apply(s.Kern, p, c.effect)
			want, wantEvents, _ := kernel.Step(s.Kern, p)
			if e != api.OK || !equal(k, want) || !equal(events, wantEvents) {
				t.Errorf("Apply of %v for %v: %d, %s", c.effect, p, e, showEvents(events))
			}
		}
	}
}

// P6.1 (K2): Executes with a thread that executes an instruction, one that is preempted, an idle processor, one that steals, and other kinds of picks.
func TestExecutes(t *testing.T) {
	s := newScene(t, "11", "3: nop; nop", "2: nop; nop", "3: nop; nop")
	for _, c := range []struct {
		skip, pick string
		want       int
	}{
		{"", "s0", -1}, {"s0", "s0", 0}, {"", "t0", -1}, {"", "d0", -1}, {"", "s1", -1}, {"s1", "s1", 1}, {"", "s0", 0}, {"t0 t0 t0", "s0", 0}, {"t0", "s0", -1}, {"s0", "s0", 2},
	} {
		s.skip(c.skip)
		if tid, e := kernel.Executes(s.Kern, pickOf(c.pick)); tid != c.want || e != api.OK {
			t.Errorf("behind %q Executes of %s is %d, %d; want %d", c.skip, c.pick, tid, e, c.want)
		}
	}
	s.skip("t1 t1 t1 t1")
	if tid, e := kernel.Executes(s.Kern, pickOf("s1")); tid != 1 || e != api.OK {
		t.Errorf("with a slice that is used up Executes is %d, %d", tid, e)
	}
}

// P6.1 (K4): Enabled of states that are written out.
func TestEnabled(t *testing.T) {
	s := newScene(t, "29", "3: lit r0, 1; set r1, 128; sys 9")
	for _, c := range []struct{ skip, want string }{
		{"", "s0 t0 t1"}, {"s0", "s0 t0 t1"}, {"s0 s0", "s0 t0 t1"}, {"s0", "t0 d0 t1 d1"}, {"d1", "s0 t0 t1"}, {"s0 s0", "t0 t1"},
	} {
		s.skip(c.skip)
		if l, e := kernel.Enabled(s.Kern); e != api.OK || !slices.Equal(l, picksOf(c.want)) {
			t.Errorf("behind %q Enabled is %v, %d; want %s", c.skip, l, e, c.want)
		}
	}
	s = newScene(t, "29", "3: nop", "3: nop", "3: nop")
	s.skip("s1 s1 s1")
	if l, e := kernel.Enabled(s.Kern); e != api.OK || !slices.Equal(l, picksOf("s0 t0 s1 t1")) {
		t.Errorf("with a thread to steal Enabled is %v, %d", l, e)
	}
	s.Clocks[1].Now = 1<<40 - 8
	if l, e := kernel.Enabled(s.Kern); e != api.OK || !slices.Equal(l, picksOf("s0 t0")) {
		t.Errorf("at the end of a processor's time Enabled is %v, %d", l, e)
	}
	s.Clocks[0].Now = 1 << 40
	if l, e := kernel.Enabled(s.Kern); e != api.OK || len(l) != 0 {
		t.Errorf("at the end of time Enabled is %v, %d", l, e)
	}
}

// P6.1 (K2, K4): Step, Executes and Enabled of random states.
func TestTransitionsOfRandomStates(t *testing.T) {
	m := newMaker()
	kinds, calls := map[int]int{}, map[int64]int{}
	for range 10000 {
		k := m.valid()
		p := m.pick(k)
		got, events, e := kernel.Step(k, p)
		want, wantEvents, wantErr := modelTransition(k, p, nil)
		if e != wantErr || !equal(got, want) || !equal(events, wantEvents) {
			t.Fatalf("%v of\n%s\nis %d\n%s\n%s; want %d\n%s\n%s", p, show(k), e, show(got), showEvents(events), wantErr, show(want), showEvents(wantEvents))
		}
		for _, e := range events {
			kinds[e.Kind]++
			if e.Kind == api.EvEntry {
				calls[e.Args[0]]++
			}
		}
		if tid, e := kernel.Executes(k, p); wantErr != api.ErrPick && (tid != modelExecutes(k, p) || e != api.OK) {
			t.Errorf("Executes of %v is %d, %d in\n%s", p, tid, e, show(k))
		}
		if m.Intn(6) == 0 {
			modelEnabled(t, k)
		}
	}
	for kind := api.EvInsn; kind <= api.EvFault; kind++ {
		if kinds[kind] < 30 {
			t.Errorf("too few events: %v", kinds)
		}
	}
	for n := range int64(14) {
		if calls[n] < 30 {
			t.Errorf("too few calls: %v", calls)
		}
	}
}

// modelEnabled compares Enabled of a state with the model's transitions.
func modelEnabled(t *testing.T, k api.Kern) {
	t.Helper()
	var want []api.Pick
	for cpu := range k.Clocks {
		for kind := range 3 {
			p := api.Pick{Cpu: cpu, Kind: kind}
			next, events, e := modelTransition(k, p, nil)
			if e != api.OK {
				continue
			}
			next.Clocks[cpu] = k.Clocks[cpu]
			if len(events) > 0 || !equal(next, k) {
				want = append(want, p)
			}
		}
	}
	if got, e := kernel.Enabled(k); e != api.OK || !slices.Equal(got, want) {
		t.Errorf("Enabled is %v, %d; want %v in\n%s", got, e, want, show(k))
	}
}

// effect returns an effect for a transition: that of cpu.Step, or one with changes.
func (m maker) effect(k api.Kern, tid int) api.Effect {
	var x api.Effect
	if tid >= 0 {
		x, _ = cpu.Step(k.Procs[k.Threads[tid].Pid].Space, k.Threads[tid].Regs)
	}
	for range m.Intn(4) {
		switch m.Intn(6) {
		case 0:
			x.Regs.R[m.Intn(8)] = m.word(300)
		case 1:
			x.At = m.word(300)
		case 2:
			x.Data = make([]byte, m.Intn(10))
		case 3:
			x.Trap = api.Trap{Kind: m.Intn(8) - 1, N: pick(m, m.Intn(15), int(m.word(20))), Fault: api.Fault{Kind: m.Intn(5), At: m.word(300)}}
		case 4:
			x.Data, x.At = nil, 0
		case 5:
			x.Insn.Op = m.Intn(40)
		}
	}
	return x
}

// P6.1 (K2): Apply of random effects, P6.1 (K3): Run of random picks.
func TestApplyAndRunOfRandomStates(t *testing.T) {
	m := newMaker()
	errors := map[api.Errno]int{}
	for range 5000 {
		k := m.valid()
		p := m.pick(k)
		if m.Intn(4) > 0 {
			p = api.Pick{Cpu: m.Intn(len(k.Clocks))}
		}
		tid := -1
		if p.Cpu >= 0 && p.Cpu < len(k.Clocks) {
			tid = modelExecutes(k, p)
		}
		x := m.effect(k, tid)
		got, events, e := kernel.Apply(k, p, x)
		want, wantEvents, wantErr := modelTransition(k, p, &x)
		if e != wantErr || !equal(got, want) || !equal(events, wantEvents) {
			t.Fatalf("Apply of %v, %v in\n%s\nis %d\n%s\n%s; want %d\n%s\n%s", p, x, show(k), e, show(got), showEvents(events), wantErr, show(want), showEvents(wantEvents))
		}
		errors[e]++
	}
	for _, e := range []api.Errno{api.OK, api.ErrEffect, api.ErrArg, api.ErrLong, api.ErrPick} {
		if errors[e] < 20 {
			t.Errorf("too few cases: %v", errors)
		}
	}
	for range 300 {
		k := m.valid()
		var l []api.Pick
		for range m.Intn(20) {
			l = append(l, m.pick(k))
		}
		got, events, e := kernel.Run(k, l)
		want, wantEvents, wantErr := modelRun(k, l)
		if e != wantErr || !equal(got, want) || !equal(events, wantEvents) {
			t.Fatalf("Run of %v in\n%s\nis %d\n%s\n%s; want %d\n%s\n%s", l, show(k), e, show(got), showEvents(events), wantErr, show(want), showEvents(wantEvents))
		}
	}
}
