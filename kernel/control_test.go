package kernel_test

import (
	"bytes"
	"math"
	"slices"
	"testing"

	"tapline/api"
	"tapline/kernel"
)

// P6.1 (K5): Stop of a thread in each state; nothing but this thread and its processor changes.
func TestStop(t *testing.T) {
	for tid := range 13 {
		ahead := crowd(t, "nop").Kern
		k, done, e := kernel.Stop(ahead, tid)
		want := clone(ahead)
		state := ahead.Sched.Threads[tid].State
		stops := state == api.StReady || state == api.StRun
		if stops {
			want.Threads[tid].Wait, want.Sched.Threads[tid].State = api.WtStop, api.StBlock
			for cpu := range want.Sched.Cpus {
				q := &want.Sched.Cpus[cpu]
				if q.Run == tid {
					q.Run, q.Left = -1, 0
				}
				q.Ready = slices.DeleteFunc(q.Ready, func(u int) bool { return u == tid })
			}
		}
		if e != api.OK || done != stops || !equal(k, want) {
			t.Errorf("Stop of %d: %v, %d\n%s", tid, done, e, show(k))
		}
	}
	k := crowd(t, "nop").Kern
	for _, tid := range []int{-1, 13, 16, math.MinInt, math.MaxInt, 1 << 32} {
		if next, done, e := kernel.Stop(k, tid); e != api.ErrNone || done || !isZero(next) {
			t.Errorf("Stop of %d: %v, %d", tid, done, e)
		}
	}
}

// P6.1 (K5): Kill of a living process, of a dead one, and of what there is not.
func TestKill(t *testing.T) {
	for pid, want := range map[int][]int{0: {0, 1, 2, 3, 4, 5, 6, 8, 9}, 1: {6, 7, 10, 11, 12}} {
		ahead := crowd(t, "nop").Kern
		k, done, e := kernel.Kill(ahead, pid, math.MinInt64)
		expect(t, "Kill", e == api.OK && done && kernel.Check(k) == api.OK && k.Procs[pid].Dead && k.Procs[pid].Status == math.MinInt64)
		var dead []int
		for tid := range k.Threads {
			if k.Sched.Threads[tid].State == api.StDead {
				dead = append(dead, tid)
			}
			expect(t, "the registers", k.Threads[tid].Regs == ahead.Threads[tid].Regs)
		}
		expect(t, "the threads that ended", slices.Equal(dead, want))
		expect(t, "all else", equal(k.Clocks, ahead.Clocks) && equal(k.Disk.Blocks, ahead.Disk.Blocks) && len(k.Disk.Queue) == 1 && k.Threads[k.Disk.Queue[0].Tid].Pid == 1-pid)
		again, done, e := kernel.Kill(k, pid, 3)
		expect(t, "Kill of a dead process", e == api.OK && !done && equal(again, k))
	}
	k := crowd(t, "nop").Kern
	for _, pid := range []int{-1, 2, 8, math.MinInt, math.MaxInt, 1 << 32} {
		if next, done, e := kernel.Kill(k, pid, 1); e != api.ErrNone || done || !isZero(next) {
			t.Errorf("Kill of %d: %v, %d", pid, done, e)
		}
	}
}

// P6.1 (K5): Poke where it is permitted and where it is not, and of no bytes, 64 and 65.
func TestPoke(t *testing.T) {
	ahead := crowd(t, "nop").Kern
	for _, c := range []struct {
		at   int64
		n    int
		done bool
	}{
		{dataAt, 1, true}, {dataAt, 64, true}, {fixedAt - 1, 1, true}, {restAt, 64, true}, {spaceTo - 1, 1, true}, {dataAt + 1, 63, true}, {dataAt, 0, false}, {0, 0, false}, {-1, 0, false},
		{dataAt - 1, 1, false}, {dataAt - 1, 2, false}, {fixedAt - 1, 2, false}, {dataAt + 1, 64, false}, {fixedAt, 1, false}, {noneAt, 1, false}, {0, 1, false}, {restAt - 1, 2, false}, {restAt + 1, 64, false}, {spaceTo - 1, 2, false}, {spaceTo, 1, false},
		{-1, 1, false}, {-1, 64, false}, {math.MinInt64, 1, false}, {math.MaxInt64, 1, false}, {math.MaxInt64, 64, false}, {1<<32 + dataAt, 1, false},
	} {
		b := bytes.Repeat([]byte{'x'}, c.n)
		want := clone(ahead)
		if c.done {
			copy(want.Procs[1].Space.Bytes[c.at:], b)
		}
		if k, done, e := kernel.Poke(ahead, 1, c.at, b); e != api.OK || done != c.done || !equal(k, want) {
			t.Errorf("Poke of %d bytes at %d: %v, %d", c.n, c.at, done, e)
		}
		for _, pid := range []int{-1, 2, 8, math.MinInt, math.MaxInt} {
			if k, done, e := kernel.Poke(ahead, pid, c.at, append(b, make([]byte, 65)...)); e != api.ErrNone || done || !isZero(k) {
				t.Errorf("Poke of process %d: %v, %d", pid, done, e)
			}
		}
		for _, n := range []int{65, 66, 2049, 100000} {
			if k, done, e := kernel.Poke(ahead, 0, c.at, make([]byte, n)); e != api.ErrLong || done || !isZero(k) {
				t.Errorf("Poke of %d bytes: %v, %d", n, done, e)
			}
		}
	}
	dead, _, _ := kernel.Kill(ahead, 1, 2)
	if k, done, e := kernel.Poke(dead, 1, dataAt, []byte{7}); e != api.OK || !done || k.Procs[1].Space.Bytes[dataAt] != 7 {
		t.Errorf("Poke of a dead process: %v, %d", done, e)
	}
}

// P6.1 (K5): Stop, Kill and Poke of random states, against the model.
func TestControlOfRandomStates(t *testing.T) {
	m := newMaker()
	did := map[string]int{}
	for range 2000 {
		ahead := m.valid()
		tid, pid := m.Intn(len(ahead.Threads)+2)-1, m.Intn(len(ahead.Procs)+2)-1
		at, b := m.word(len(ahead.Procs[0].Space.Bytes)), make([]byte, m.Intn(70))
		m.Read(b)
		want, done, e := modelStop(clone(ahead), tid)
		got, gotDone, gotErr := kernel.Stop(ahead, tid)
		if e != gotErr || done != gotDone || !equal(got, want) {
			t.Errorf("Stop of %d: %v, %d in\n%s", tid, gotDone, gotErr, show(ahead))
		}
		did["Stop "+showDone(done, e)]++
		want, done, e = modelKill(clone(ahead), pid, at)
		got, gotDone, gotErr = kernel.Kill(ahead, pid, at)
		if e != gotErr || done != gotDone || !equal(got, want) {
			t.Errorf("Kill of %d: %v, %d in\n%s", pid, gotDone, gotErr, show(ahead))
		}
		did["Kill "+showDone(done, e)]++
		want, done, e = modelPoke(clone(ahead), pid, at, b)
		got, gotDone, gotErr = kernel.Poke(ahead, pid, at, b)
		if e != gotErr || done != gotDone || !equal(got, want) {
			t.Errorf("Poke of %d at %d: %v, %d in\n%s", pid, at, gotDone, gotErr, show(ahead))
		}
		did["Poke "+showDone(done, e)]++
	}
	for _, what := range []string{"Stop done", "Stop not", "Stop error", "Kill done", "Kill not", "Kill error", "Poke done", "Poke not", "Poke error"} {
		if did[what] < 50 {
			t.Errorf("too few cases: %v", did)
		}
	}
}

func showDone(done bool, e api.Errno) string {
	switch {
	case e != api.OK:
		return "error"
	case done:
		return "done"
	}
	return "not"
}

func modelStop(k api.Kern, tid int) (api.Kern, bool, api.Errno) {
	if tid < 0 || tid >= len(k.Threads) {
		return api.Kern{}, false, api.ErrNone
	}
	s := &k.Sched.Threads[tid]
	if s.State == api.StBlock || s.State == api.StDead {
		return k, false, api.OK
	}
	q := &k.Sched.Cpus[s.Cpu]
	if s.State == api.StRun {
		q.Run, q.Left = -1, 0
	}
	q.Ready = slices.DeleteFunc(q.Ready, func(u int) bool { return u == tid })
	s.State, k.Threads[tid].Wait = api.StBlock, api.WtStop
	return k, true, api.OK
}

func modelKill(k api.Kern, pid int, status int64) (api.Kern, bool, api.Errno) {
	if pid < 0 || pid >= len(k.Procs) {
		return api.Kern{}, false, api.ErrNone
	}
	if k.Procs[pid].Dead {
		return k, false, api.OK
	}
	m := &model{Kern: k}
	m.kill(pid, status)
	return m.Kern, true, api.OK
}

func modelPoke(k api.Kern, pid int, at int64, b []byte) (api.Kern, bool, api.Errno) {
	if pid < 0 || pid >= len(k.Procs) {
		return api.Kern{}, false, api.ErrNone
	}
	if len(b) > 64 {
		return api.Kern{}, false, api.ErrLong
	}
	s := k.Procs[pid].Space
	for i := range int64(len(b)) {
		if at < 0 || at > 2048 || at+i >= int64(len(s.Bytes)) || s.Perm[(at+i)/64] != 3 {
			return k, false, api.OK
		}
	}
	if len(b) == 0 {
		return k, false, api.OK
	}
	copy(s.Bytes[at:], b)
	return k, true, api.OK
}
