package kernel_test

import (
	"fmt"
	"math"
	"math/rand"
	"slices"
	"strings"

	"tapline/api"
	"tapline/insn"
)

// maker makes states, configurations and picks from seeded numbers.
type maker struct {
	*rand.Rand
}

func newMaker() maker {
	return maker{rand.New(rand.NewSource(6))}
}

// pick returns one of some values.
func pick[T any](m maker, values ...T) T {
	return values[m.Intn(len(values))]
}

// extreme are numbers that are out of range wherever they stand.
var extreme = []int64{math.MinInt64, math.MaxInt64, -1, 1 << 32, -1 << 32, math.MaxInt32, math.MinInt32, 1<<32 + 1, 1<<63 - 16, 99}

// word returns a value of a register: a small number, an address, or any number.
func (m maker) word(space int) int64 {
	switch m.Intn(8) {
	case 0:
		return pick(m, extreme...)
	case 1, 2, 3:
		return int64(m.Intn(space + 10))
	case 4:
		return int64(m.Intn(16))
	}
	return int64(m.Intn(4))
}

// perms are the permissions that pages can have.
var perms = []int{0, api.PmRead, api.PmRead + api.PmWrite, api.PmExec}

// space returns a space with code in its first page, and the addresses of its instructions.
func (m maker) space() (api.Space, []int64) {
	s := api.Space{Perm: []int{api.PmExec}}
	for range m.Intn(5) {
		s.Perm = append(s.Perm, pick(m, 3, 3, 3, pick(m, perms...)))
	}
	s.Bytes = make([]byte, 64*len(s.Perm))
	m.Read(s.Bytes[64:])
	var at []int64
	for to := 0; ; {
		at = append(at, int64(to))
		code := m.instruction()
		if to+len(code) > 64 {
			return s, at
		}
		to += copy(s.Bytes[to:], code)
	}
}

// instruction returns the encoding of an instruction, in half of the cases of a system call.
func (m maker) instruction() []byte {
	x := api.Insn{Op: api.InSys, Imm: int64(pick(m, m.Intn(14), m.Intn(14), m.Intn(14), m.Intn(14), pick(m, api.SysWake, api.SysRead, api.SysWrite, api.SysSpawn)))}
	switch m.Intn(14) {
	case 0:
		x = api.Insn{Op: api.InLit, A: m.Intn(3), Imm: int64(m.Intn(20) - 2)}
	case 1:
		x = api.Insn{Op: pick(m, api.InStore1, api.InStore8, api.InLoad1, api.InLoad8), A: m.Intn(8), B: m.Intn(8), Imm: int64(m.Intn(20) - 10)}
	case 2:
		x = api.Insn{Op: pick(m, api.InPush, api.InPop, api.InJumpR, api.InCallR), A: m.Intn(8)}
	case 3:
		x = api.Insn{Op: pick(m, api.InDiv, api.InAdd, api.InSwap, api.InMove), A: m.Intn(8), B: m.Intn(8)}
	case 4:
		x = api.Insn{Op: pick(m, api.InBreak, api.InRet, api.InNop)}
	case 5:
		return []byte{byte(m.Intn(256))}
	}
	b, e := insn.Encode(x)
	if e != api.OK {
		panic("no instruction")
	}
	return b
}

// name returns a name of some of these bytes, the first one of the others.
func (m maker) name(first, bytes string) string {
	n := m.Intn(4)
	if m.Intn(8) == 0 {
		n = 30
	}
	out := []byte{first[m.Intn(len(first))]}
	for range n {
		out = append(out, bytes[m.Intn(len(bytes))])
	}
	return string(out)
}

// symbols returns symbols of a space.
func (m maker) symbols(space int) []api.Sym {
	var out []api.Sym
	names := map[string]bool{}
	for at := m.Intn(30); at < space && len(out) < 32; at += m.Intn(3) * m.Intn(30) {
		size := 1 + m.Intn(min(space-at, 40))
		name := m.name("abcxyzABCXYZ_", "abcxyzABCXYZ_0189")
		if !names[name] {
			out = append(out, api.Sym{Name: name, At: int64(at), Size: int64(size)})
		}
		names[name] = true
		at += size
	}
	return out
}

// queues returns a state of the scheduler with so many processors.
func (m maker) queues(cpus int) api.Sched {
	s := api.Sched{Quantum: 1 + m.Intn(1+m.Intn(20)), Cpus: make([]api.CpuQ, cpus), Threads: make([]api.Slot, pick(m, m.Intn(17), m.Intn(8), 14+m.Intn(3)))}
	states := pick(m, []int{1, 1, 2, 2}, []int{1, 2, 3, 4}, []int{2, 2, 3, 3}, []int{2, 3, 3, 4}, []int{2, 2, 2, 4})
	least := m.Intn(8)
	for cpu := range s.Cpus {
		s.Cpus[cpu].Run = -1
	}
	for _, tid := range m.Perm(len(s.Threads)) {
		t := api.Slot{Pri: least + m.Intn(8-least), Cpu: m.Intn(cpus), State: pick(m, states...)}
		q := &s.Cpus[t.Cpu]
		if t.State == api.StRun && q.Run != -1 {
			t.State = pick(m, api.StReady, api.StBlock, api.StDead)
		}
		switch t.State {
		case api.StRun:
			q.Run, q.Left = tid, m.Intn(s.Quantum+1)
		case api.StReady:
			q.Ready = append(q.Ready, tid)
		}
		s.Threads[tid] = t
	}
	for _, q := range s.Cpus {
		slices.SortStableFunc(q.Ready, func(a, b int) int { return s.Threads[b].Pri - s.Threads[a].Pri })
	}
	return s
}

// valid returns a valid state.
func (m maker) valid() api.Kern {
	k := api.Kern{Procs: make([]api.Proc, 1+m.Intn(1+m.Intn(8))), Sched: m.queues(1 + m.Intn(4))}
	for range k.Sched.Cpus {
		now := pick(m, 0, int64(m.Intn(1000)), int64(m.Intn(1000)), 1<<40-int64(m.Intn(40)))
		k.Clocks = append(k.Clocks, api.Clock{Now: now, Rate: int64(1 + m.Intn(9))})
	}
	for range pick(m, 1, 1+m.Intn(4), 16) {
		b := make([]byte, 16)
		m.Read(b)
		k.Disk.Blocks = append(k.Disk.Blocks, b)
	}
	entries := make([][]int64, len(k.Procs))
	for pid := range k.Procs {
		p := &k.Procs[pid]
		p.Space, entries[pid] = m.space()
		p.Name = m.name("!a7~", "!a7~")
		p.Syms = m.symbols(len(p.Space.Bytes))
		p.Dead, p.Status = true, m.word(200)
	}
	for tid, s := range k.Sched.Threads {
		pid := m.Intn(len(k.Procs))
		k.Threads = append(k.Threads, m.thread(pid, len(k.Procs[pid].Space.Bytes), entries[pid], s.State == api.StBlock))
		if s.State != api.StDead {
			k.Procs[pid].Dead, k.Procs[pid].Status = false, 0
		}
		if t := k.Threads[tid]; t.Wait == api.WtIo {
			r := api.Request{Tid: tid, Block: m.Intn(len(k.Disk.Blocks)), Write: t.Sys == api.SysWrite, At: m.word(len(k.Procs[pid].Space.Bytes))}
			k.Disk.Queue = slices.Insert(k.Disk.Queue, m.Intn(len(k.Disk.Queue)+1), r)
		}
	}
	return k
}

// thread returns a thread of a process with so many bytes and with instructions at these addresses.
func (m maker) thread(pid, space int, entries []int64, blocked bool) api.Thread {
	t := api.Thread{Pid: pid, Sys: -1}
	for r := range t.Regs.R {
		t.Regs.R[r] = m.word(space)
	}
	t.Regs.R[0] = pick(m, t.Regs.R[0], int64(m.Intn(3)), int64(m.Intn(3)), int64(m.Intn(9)))
	t.Regs.R[1] = pick(m, t.Regs.R[1], int64(64+m.Intn(space)))
	t.Regs.Pc = pick(m, pick(m, entries...), pick(m, entries...), pick(m, entries...), m.word(space))
	if !blocked {
		return t
	}
	switch m.Intn(4) {
	case 0:
		t.Wait, t.Sys = api.WtIo, pick(m, api.SysRead, api.SysWrite)
	case 1:
		t.Wait = api.WtStop
	default:
		t.Wait, t.Sys, t.Chan = api.WtSleep, api.SysSleep, pick(m, 0, 1, 2, m.word(space))
	}
	return t
}

// pick returns a pick of a state, seldom one that there is not.
func (m maker) pick(k api.Kern) api.Pick {
	p := api.Pick{Cpu: m.Intn(len(k.Clocks)), Kind: pick(m, 0, 0, 0, 0, 1, 2)}
	switch m.Intn(60) {
	case 0:
		p.Cpu = pick(m, -1, len(k.Clocks), math.MinInt, math.MaxInt, 4)
	case 1:
		p.Kind = pick(m, -1, 3, math.MinInt, math.MaxInt)
	}
	return p
}

// picks returns so many picks of a state.
func (m maker) picks(k api.Kern, n int) []api.Pick {
	var out []api.Pick
	for range n {
		out = append(out, api.Pick{Cpu: m.Intn(len(k.Clocks)), Kind: pick(m, 0, 0, 0, 0, 0, 0, 1, 2)})
	}
	return out
}

// snippets are what programs of long runs do; %d is a small number.
var snippets = []string{
	"lit r0, %d; sys 6", "lit r0, %d; sys 7", "lit r0, %d; sys 7", "lit r0, %d; sys 5", "sys 3", "sys 1", "sys 2", "sys 10", "sys 99",
	"lit r0, %d; set r1, 130; sys 8", "lit r0, %d; set r1, 140; sys 9", "lit r0, %d; set r1, 185; sys 9", "lit r0, %d; set r1, 185; sys 8",
	"lit r0, 0; lit r1, %d; set r2, 192; sys 4", "lit r0, 0; sys 4", "lit r0, %d; lit r1, 0; sys 11", "lit r0, 5; lit r1, %d; sys 11",
	"inc r5, %d; push r5; pop r6", "lea r4, l; inc r3, 1", "set r4, 330; store8 [r4+%d], r3; inc r3, 7", "inc r3, %d",
}

// endings are what programs of long runs do seldom.
var endings = []string{"lit r0, %d; sys 0", "lit r0, %d; lit r1, 9; sys 12", "lit r4, 0; div r3, r4", "break", "load8 r1, [r0-1]", "pop r1; pop r1; ret"}

// program returns the text of a program that goes on for long.
func (m maker) program() string {
	for {
		text := ""
		for range 2 + m.Intn(5) {
			text += pick(m, snippets...) + "; "
		}
		if m.Intn(3) == 0 {
			text += pick(m, endings...) + "; "
		}
		for strings.Contains(text, "%d") {
			text = strings.Replace(text, "%d", fmt.Sprint(m.Intn(5)), 1)
		}
		text = fmt.Sprintf("%d: l: %sjump l", m.Intn(8), text)
		if code := text[3:]; len(codeOf(code)) <= dataAt {
			return text
		}
	}
}

// boot returns a configuration whose programs go on for long.
func (m maker) boot() api.Boot {
	rates, programs := "", []string{}
	for range 1 + m.Intn(4) {
		rates += fmt.Sprint(1 + m.Intn(9))
	}
	for range 1 + m.Intn(8) {
		programs = append(programs, m.program())
	}
	b := bootOf(rates, programs...)
	b.Quantum = 1 + m.Intn(20)
	b.Blocks = 1 + m.Intn(5)
	return b
}
