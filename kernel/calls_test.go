package kernel_test

import (
	"fmt"
	"math"
	"slices"
	"testing"

	"tapline/api"
	"tapline/kernel"
)

// asking returns a scene with two processors, in which thread 0, of process 0, runs on processor 0 and is about to make a system call; thread 1, of process 1, is ready on processor 1.
func asking(t *testing.T, number int, args ...int64) *scene {
	t.Helper()
	s := newScene(t, "25", fmt.Sprintf("3: sys %d; nop", number), "5: nop; nop")
	s.skip("s0")
	copy(s.Threads[0].Regs.R[:], args)
	return s
}

// asked makes the call, and expects the events behind EvEntry.
func (s *scene) asked(number int, events string) {
	s.t.Helper()
	r := s.Threads[0].Regs.R
	want := fmt.Sprintf("insn 0@0 sys; entry 0 %s %d %d %d", nameOf(callNames, int64(number)), r[0], r[1], r[2])
	if events != "" {
		want += "; " + events
	}
	s.do("s0", want)
}

// beyond returns numbers that are out of range wherever they stand, and such that would be in range if only their lowest bits were taken.
func beyond() []int64 {
	return append(slices.Clone(extreme), 1<<32, 1<<32+2, 1<<33+3, -1<<32+1, 1<<31, 1<<40, math.MinInt64+1, 1<<62, 1<<16, 256, 257)
}

// P6.1 (K2): SysExit of the last thread of a process, and of another one.
func TestSysExit(t *testing.T) {
	s := asking(t, api.SysExit, -9)
	s.asked(api.SysExit, "exit 0 -9; off 0 dead")
	expect(t, "the process", s.Procs[0].Dead && s.Procs[0].Status == -9 && !s.Procs[1].Dead)
	s.is(0, "0/0 dead 0 pri 3 r0 -9 pc 2")
	s.do("s0", "")
	s = crowd(t, "sys 0")
	s.Threads[0].Regs.R[0] = 4
	s.do("s0", "insn 0@0 sys; entry 0 exit 4 0 0; exit 0 4; off 0 dead")
	expect(t, "the process", !s.Procs[0].Dead && s.Procs[0].Status == 0 && s.Sched.Cpus[0].Run == -1)
	s.do("s0", "on 2 3")
	for _, rest := range []struct {
		thread api.Thread
		state  int
		dead   bool
	}{
		{api.Thread{Sys: -1}, api.StDead, true}, {api.Thread{Pid: 1, Sys: -1}, api.StReady, true}, {api.Thread{Sys: -1}, api.StReady, false}, {api.Thread{Wait: api.WtSleep, Sys: api.SysSleep}, api.StBlock, false}, {api.Thread{Wait: api.WtStop, Sys: -1}, api.StBlock, false},
	} {
		s := asking(t, api.SysExit, math.MaxInt64)
		s.Threads = append(s.Threads, rest.thread)
		s.Sched.Threads = append(s.Sched.Threads, api.Slot{Pri: 2, State: rest.state})
		if rest.state == api.StReady {
			s.Sched.Cpus[0].Ready = []int{2}
		}
		s.asked(api.SysExit, "exit 0 9223372036854775807; off 0 dead")
		expect(t, "the process", s.Procs[0].Dead == rest.dead && (s.Procs[0].Status == math.MaxInt64) == rest.dead)
	}
}

// P6.1 (K2): SysPid, SysTid, SysTime, SysYield, and numbers of no call.
func TestCallsWithoutArguments(t *testing.T) {
	s := newScene(t, "25", "3: nop", "3: sys 1; sys 2; sys 10; sys 3; nop", "3: nop", "2: nop")
	s.do("s1 s1", "on 1 3; insn 1@0 sys; entry 1 pid 0 0 0; return 1 pid 1")
	s.Threads[1].Pid = 2
	s.Threads[2].Pid = 1
	s.Procs[2].Space = s.Procs[1].Space
	s.do("s1", "insn 1@2 sys; entry 1 tid 1 0 0; return 1 tid 1")
	s.do("t1 s1", "tick 1; insn 1@4 sys; entry 1 time 1 0 0; return 1 time 20")
	s.is(1, "2/1 run 1 pri 3 r0 20 pc 6")
	s.do("s1", "insn 1@6 sys; entry 1 yield 20 0 0; return 1 yield 0")
	expect(t, "Left", s.Sched.Cpus[1].Left == 0 && s.Sched.Cpus[1].Run == 1)
	s.do("s1", "insn 1@8 nop")
	expect(t, "Left", s.Sched.Cpus[1].Left == 4)
	s = asking(t, api.SysYield, 6)
	s.Sched.Threads[1] = api.Slot{Pri: 3, State: api.StReady}
	s.Sched.Cpus[0].Ready, s.Sched.Cpus[1].Ready = []int{1}, nil
	s.asked(api.SysYield, "return 0 yield 0")
	s.do("s0", "off 0 ready; enqueue 0 0 3; on 1 3")
	for _, n := range []int{13, 14, 64, 127} {
		s := asking(t, n, 5, 6, 7)
		s.asked(n, fmt.Sprintf("return 0 %d -1", n))
		s.is(0, "0/0 run 0 pri 3 r0 -1 pc 2")
	}
}

// P6.1 (K2): SysSpawn, up to sixteen threads.
func TestSysSpawn(t *testing.T) {
	s := asking(t, api.SysSpawn, 2, -3, math.MinInt64)
	s.Threads[0].Regs.R[3] = 33
	s.asked(api.SysSpawn, "spawn 2 0; enqueue 2 0 3; return 0 spawn 2")
	want := api.Thread{Pid: 0, Regs: api.Regs{R: [8]int64{-3, 0, 0, 0, 0, 0, 0, math.MinInt64}, Pc: 2}, Sys: -1}
	expect(t, "the new thread", s.Threads[2] == want && s.Sched.Threads[2] == api.Slot{Pri: 3, State: api.StReady})
	s.Threads[0].Regs.Pc, s.Sched.Threads[0].Pri = 0, 6
	for tid := 3; tid < 16; tid++ {
		s.Threads[0].Regs.Pc = 0
		s.asked(api.SysSpawn, fmt.Sprintf("spawn %d 0; enqueue %d 0 6; return 0 spawn %d", tid, tid, tid))
	}
	s.Threads[0].Regs.Pc = 0
	s.asked(api.SysSpawn, "return 0 spawn -1")
	expect(t, "the threads", len(s.Threads) == 16 && len(s.Sched.Threads) == 16)
	s = newScene(t, "25", "3: nop", "4: sys 4; nop")
	s.skip("s1")
	s.Threads[1].Regs.R[0] = math.MaxInt64
	s.do("s1", "insn 1@0 sys; entry 1 spawn 9223372036854775807 0 0; spawn 2 1; enqueue 2 1 4; return 1 spawn 2")
	s.is(2, "1/2 ready 1 pri 4 r0 0 pc 9223372036854775807")
	for range 13 {
		addThread(&s.Kern)
	}
	s.Threads[1].Regs.Pc = 0
	s.do("s1", "insn 1@0 sys; entry 1 spawn 2 0 0; return 1 spawn -1")
}

// P6.1 (K2): SysPri, with priorities at and beyond their bounds.
func TestSysPri(t *testing.T) {
	for pri := range int64(8) {
		s := asking(t, api.SysPri, pri)
		s.asked(api.SysPri, "return 0 pri 3")
		s.is(0, fmt.Sprintf("0/0 run 0 pri %d r0 3 pc 2", pri))
	}
	for _, pri := range append(beyond(), 8, 9, -8) {
		s := asking(t, api.SysPri, pri)
		s.asked(api.SysPri, "return 0 pri -1")
		s.is(0, "0/0 run 0 pri 3 r0 -1 pc 2")
	}
}

// P6.1 (K2): SysSleep on any channel.
func TestSysSleep(t *testing.T) {
	for _, channel := range append(beyond(), 0, 1) {
		s := asking(t, api.SysSleep, channel)
		s.asked(api.SysSleep, "off 0 block")
		s.is(0, fmt.Sprintf("0/0 block 0 pri 3 r0 %d pc 2 wait 1 chan %d sys 6", channel, channel))
		expect(t, "the processor", s.Sched.Cpus[0].Run == -1)
	}
}

// P6.1 (K2): SysWake of no thread, of one and of several, of any process, in the order of their numbers.
func TestSysWake(t *testing.T) {
	s := asking(t, api.SysWake, 4)
	s.asked(api.SysWake, "return 0 wake 0")
	for _, c := range []struct {
		channels [4]int64
		r0       int64
		events   string
	}{
		{[4]int64{1, 2, 3, 5}, 4, "return 0 wake 0"},
		{[4]int64{0, 0, 0, 0}, -1, "return 0 wake 0"},
		{[4]int64{1, 4, 3, 5}, 4, "wake 3 4; enqueue 3 1 2; return 3 sleep 0; return 0 wake 1"},
		{[4]int64{1, 4, 3, 4}, 4, "wake 3 4; enqueue 3 1 2; return 3 sleep 0; wake 5 4; enqueue 5 0 7; return 5 sleep 0; return 0 wake 2"},
		{[4]int64{0, 0, 0, 0}, 0, "wake 2 0; enqueue 2 0 1; return 2 sleep 0; wake 3 0; enqueue 3 1 2; return 3 sleep 0; wake 4 0; enqueue 4 1 3; return 4 sleep 0; wake 5 0; enqueue 5 0 7; return 5 sleep 0; return 0 wake 4"},
		{[4]int64{math.MinInt64, math.MaxInt64, 0, 0}, math.MinInt64, "wake 2 -9223372036854775808; enqueue 2 0 1; return 2 sleep 0; return 0 wake 1"},
	} {
		s := asking(t, api.SysWake, c.r0)
		for i, channel := range c.channels {
			s.Threads = append(s.Threads, api.Thread{Pid: i % 2, Regs: api.Regs{R: [8]int64{channel}}, Wait: api.WtSleep, Chan: channel, Sys: api.SysSleep})
			s.Sched.Threads = append(s.Sched.Threads, api.Slot{Pri: []int{1, 2, 3, 7}[i], Cpu: []int{0, 1, 1, 0}[i], State: api.StBlock})
		}
		s.Threads = append(s.Threads, api.Thread{Wait: api.WtStop, Sys: -1}, api.Thread{Wait: api.WtIo, Sys: api.SysRead}, api.Thread{Sys: -1})
		s.Sched.Threads = append(s.Sched.Threads, api.Slot{State: api.StBlock}, api.Slot{State: api.StBlock}, api.Slot{State: api.StDead})
		s.Disk.Queue = []api.Request{{Tid: 7}}
		s.asked(api.SysWake, c.events)
		for i, channel := range c.channels {
			th := s.Threads[i+2]
			expect(t, "a thread that sleeps", (th.Wait == api.WtSleep) == (channel != c.r0) && (th.Regs.R[0] == 0) == (channel == c.r0 || channel == 0))
		}
	}
}

// P6.1 (K2): SysRead and SysWrite, with blocks and addresses at and beyond their bounds.
func TestSysReadAndWrite(t *testing.T) {
	for _, number := range []int{api.SysRead, api.SysWrite} {
		write := map[int]int{api.SysWrite: 1}[number]
		name := callNames[number]
		for block := range int64(3) {
			s := asking(t, number, block, dataAt)
			s.asked(number, fmt.Sprintf("start 0 %d %d; off 0 block", block, write))
			s.is(0, fmt.Sprintf("0/0 block 0 pri 3 r0 %d pc 2 wait 2 chan 0 sys %d", block, number))
			expect(t, "the request", slices.Equal(s.Disk.Queue, []api.Request{{Block: int(block), Write: write == 1, At: dataAt}}))
		}
		for _, block := range append(beyond(), 3, 4, 16) {
			s := asking(t, number, block, dataAt)
			s.asked(number, "return 0 "+name+" -1")
			expect(t, "no request", len(s.Disk.Queue) == 0)
		}
		for at, writable := range map[int64]bool{dataAt: true, fixedAt - 16: true, restAt: true, spaceTo - 16: true, fixedAt - 15: false, fixedAt: false, noneAt - 16: false, dataAt - 1: false, noneAt - 15: false, noneAt: false, restAt - 1: false, spaceTo - 15: false, spaceTo: false, 0: false, -1: false, -16: false} {
			readable := writable || at >= fixedAt-15 && at <= noneAt-16
			s := asking(t, number, 0, at)
			if number == api.SysRead && writable || number == api.SysWrite && readable {
				s.asked(number, fmt.Sprintf("start 0 0 %d; off 0 block", write))
				expect(t, "the request", s.Disk.Queue[0].At == at)
			} else {
				s.asked(number, "return 0 "+name+" -1")
			}
		}
		for _, at := range beyond() {
			if at >= dataAt && at < spaceTo {
				continue
			}
			s := asking(t, number, 0, at)
			s.asked(number, "return 0 "+name+" -1")
		}
	}
	s := crowd(t, "sys 9")
	s.Threads[0].Regs.R = [8]int64{2, dataAt}
	s.do("s0", "insn 0@0 sys; entry 0 write 2 128 0; start 0 2 1; off 0 block")
	expect(t, "the last request", len(s.Disk.Queue) == 3 && s.Disk.Queue[2] == api.Request{Tid: 0, Block: 2, Write: true, At: dataAt})
}

// P6.1 (K2): SysProtect, of each page, with each permission, and beyond.
func TestSysProtect(t *testing.T) {
	for page := range int64(6) {
		for perm := range int64(9) {
			s := asking(t, api.SysProtect, page, perm)
			ahead := clone(s.Procs)
			if page >= 2 && (perm == 0 || perm == 1 || perm == 3) {
				s.asked(api.SysProtect, "return 0 protect 0")
				ahead[0].Space.Perm[page] = int(perm)
			} else {
				s.asked(api.SysProtect, "return 0 protect -1")
			}
			expect(t, "the spaces", equal(s.Procs, ahead))
		}
	}
	for _, v := range append(beyond(), 6, 32) {
		for _, args := range [][]int64{{v, 1}, {2, v}, {v, v}} {
			s := asking(t, api.SysProtect, args...)
			ahead := clone(s.Procs)
			s.asked(api.SysProtect, "return 0 protect -1")
			expect(t, "the spaces", equal(s.Procs, ahead))
		}
	}
}

// P6.1 (K2): SysKill of the own process, of another one, of a dead one, and of what there is not.
func TestSysKill(t *testing.T) {
	s := crowd(t, "sys 12")
	s.Threads[0].Regs.R = [8]int64{0, -77}
	s.do("s0", "insn 0@0 sys; entry 0 kill 0 -77 0; exit 0 -77; off 0 dead; exit 1 -77; off 1 dead; exit 2 -77; exit 3 -77; exit 4 -77; exit 5 -77; exit 8 -77; exit 9 -77")
	expect(t, "the process", s.Procs[0].Dead && s.Procs[0].Status == -77 && !s.Procs[1].Dead && len(s.Disk.Queue) == 1)
	s.is(0, "0/0 dead 0 pri 3 r0 0 pc 2")
	s = crowd(t, "sys 12")
	s.Threads[0].Regs.R = [8]int64{1, math.MinInt64}
	s.do("s0", "insn 0@0 sys; entry 0 kill 1 -9223372036854775808 0; exit 7 -9223372036854775808; exit 10 -9223372036854775808; exit 11 -9223372036854775808; exit 12 -9223372036854775808; return 0 kill 0")
	expect(t, "the process", s.Procs[1].Dead && s.Procs[1].Status == math.MinInt64 && !s.Procs[0].Dead && slices.Equal(s.Disk.Queue, []api.Request{{Tid: 4, Block: 1, At: dataAt}}))
	s.is(12, "1/12 dead 1 pri 1 r0 0 pc 0")
	s.is(11, "1/11 dead 1 pri 1 r0 0 pc 0")
	s = crowd(t, "sys 12")
	s.Threads[0].Pid, s.Procs[1].Space = 1, clone(s.Procs[0].Space)
	s.Threads[0].Regs.R[1] = 1
	s.do("s0", "insn 0@0 sys; entry 0 kill 0 1 0; exit 1 1; off 1 dead; exit 2 1; exit 3 1; exit 4 1; exit 5 1; exit 8 1; exit 9 1; return 0 kill 0")
	expect(t, "the process", s.Procs[0].Dead && s.Procs[0].Status == 1 && !s.Procs[1].Dead && equal(s.Sched.Cpus, []api.CpuQ{{Run: 0, Left: 3, Ready: []int{7}}, {Run: -1, Ready: []int{10}}}))
	s = asking(t, api.SysKill, 1, 5)
	s.skip("s1")
	s.asked(api.SysKill, "exit 1 5; off 1 dead; return 0 kill 0")
	s.Threads[0].Regs.R, s.Threads[0].Regs.Pc = [8]int64{1, 6}, 0
	s.asked(api.SysKill, "return 0 kill -1")
	expect(t, "the process", s.Procs[1].Status == 5)
	for _, pid := range append(beyond(), 2, 8) {
		s := asking(t, api.SysKill, pid, 5)
		s.asked(api.SysKill, "return 0 kill -1")
		expect(t, "the processes", !s.Procs[0].Dead && !s.Procs[1].Dead)
	}
}

// P6.1 (K2): the arguments of a call are those of the registers behind the instruction, and all registers but R[0] and Pc stay.
func TestRegistersOfCalls(t *testing.T) {
	for number := range 14 {
		s := asking(t, number, 90, 91, 92, 93, 94, 95, 96, 97)
		k, _, e := kernel.Step(s.Kern, api.Pick{})
		r := k.Threads[0].Regs
		r.R[0] = 90
		if e != api.OK || r != (api.Regs{R: [8]int64{90, 91, 92, 93, 94, 95, 96, 97}, Pc: 2}) {
			t.Errorf("behind call %d: %v, %d", number, r, e)
		}
	}
}
