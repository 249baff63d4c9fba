package kernel_test

import (
	"fmt"
	"strconv"
	"strings"
	"testing"

	"tapline/api"
	"tapline/insn"
	"tapline/kernel"
)

// The space of a process of the tests: two code pages, a page that may be read and written, one that may be read, one without permissions, and another one that may be read and written.
const (
	dataAt  = 128
	fixedAt = 192
	noneAt  = 256
	restAt  = 320
	spaceTo = 384
)

var eventNames = []string{api.EvInsn: "insn", api.EvEntry: "entry", api.EvReturn: "return", api.EvOn: "on", api.EvOff: "off", api.EvEnqueue: "enqueue", api.EvWake: "wake", api.EvStart: "start", api.EvDone: "done", api.EvTick: "tick", api.EvSpawn: "spawn", api.EvExit: "exit", api.EvFault: "fault"}

// eventArgs has how many arguments the events of each kind have.
var eventArgs = []int{api.EvInsn: 1, api.EvEntry: 4, api.EvReturn: 2, api.EvOn: 1, api.EvOff: 1, api.EvEnqueue: 2, api.EvWake: 1, api.EvStart: 2, api.EvDone: 2, api.EvTick: 0, api.EvSpawn: 1, api.EvExit: 1, api.EvFault: 3}

var callNames = []string{api.SysExit: "exit", api.SysPid: "pid", api.SysTid: "tid", api.SysYield: "yield", api.SysSpawn: "spawn", api.SysPri: "pri", api.SysSleep: "sleep", api.SysWake: "wake", api.SysRead: "read", api.SysWrite: "write", api.SysTime: "time", api.SysProtect: "protect", api.SysKill: "kill"}

var stateNames = []string{api.StReady: "ready", api.StRun: "run", api.StBlock: "block", api.StDead: "dead"}

// nameOf returns the name of a number, or the number itself.
func nameOf(names []string, n int64) string {
	if n < 0 || n >= int64(len(names)) || names[n] == "" {
		return strconv.FormatInt(n, 10)
	}
	return names[n]
}

// argument returns the text of an argument of an event.
func argument(kind, i int, v int64) string {
	switch {
	case kind == api.EvInsn:
		line, _ := insn.Print(api.Insn{Op: int(v)})
		name, _, _ := strings.Cut(line, " ")
		return name
	case (kind == api.EvEntry || kind == api.EvReturn) && i == 0:
		return nameOf(callNames, v)
	case kind == api.EvOff:
		return nameOf(stateNames, v)
	}
	return strconv.FormatInt(v, 10)
}

// showEvent writes an event without its processor, time and process: `insn 0@2 add` or `return 0 pid 3`.
func showEvent(e api.Event) string {
	if e.Kind < 1 || e.Kind >= len(eventNames) {
		return fmt.Sprintf("?%v", e)
	}
	out := eventNames[e.Kind] + " " + strconv.Itoa(e.Tid)
	if e.Kind == api.EvInsn || e.Kind == api.EvFault || e.At != 0 {
		out += "@" + strconv.FormatInt(e.At, 10)
	}
	for i, v := range e.Args {
		if i < eventArgs[e.Kind] {
			out += " " + argument(e.Kind, i, v)
		} else if v != 0 {
			out += " ?" + strconv.FormatInt(v, 10)
		}
	}
	return out
}

// showEvents writes events.
func showEvents(l []api.Event) string {
	var out []string
	for _, e := range l {
		out = append(out, showEvent(e))
	}
	return strings.Join(out, "; ")
}

// showThread writes a thread: its process, state, processor and priority, R[0], Pc, and what it waits for.
func showThread(k api.Kern, tid int) string {
	t, s := k.Threads[tid], k.Sched.Threads[tid]
	out := fmt.Sprintf("%d/%d %s %d pri %d r0 %d pc %d", t.Pid, tid, nameOf(stateNames, int64(s.State)), s.Cpu, s.Pri, t.Regs.R[0], t.Regs.Pc)
	if t.Wait != 0 || t.Chan != 0 || t.Sys != -1 {
		out += fmt.Sprintf(" wait %d chan %d sys %d", t.Wait, t.Chan, t.Sys)
	}
	return out
}

// show writes a state, but for memory and blocks.
func show(k api.Kern) string {
	var b strings.Builder
	for pid, p := range k.Procs {
		fmt.Fprintf(&b, "process %d %q: %d pages %v, %d symbols, dead %v, status %d\n", pid, p.Name, len(p.Space.Perm), p.Space.Perm, len(p.Syms), p.Dead, p.Status)
	}
	for tid := range k.Threads {
		if tid < len(k.Sched.Threads) {
			fmt.Fprintln(&b, "thread", showThread(k, tid))
		}
	}
	fmt.Fprintf(&b, "clocks %v, processors %v, quantum %d, queue %v", k.Clocks, k.Sched.Cpus, k.Sched.Quantum, k.Disk.Queue)
	return b.String()
}

// pickOf reads a pick: s0, t0 and d0 are PkStep, PkTimer and PkDisk of processor 0.
func pickOf(text string) api.Pick {
	cpu, e := strconv.Atoi(text[1:])
	if e != nil {
		panic("no pick: " + text)
	}
	return api.Pick{Cpu: cpu, Kind: strings.Index("std", text[:1])}
}

func picksOf(text string) []api.Pick {
	var out []api.Pick
	for _, word := range strings.Fields(text) {
		out = append(out, pickOf(word))
	}
	return out
}

// codeOf returns the encodings of instructions that are separated by `;`.
func codeOf(text string) []byte {
	code, _, line, e := insn.Assemble(strings.ReplaceAll(text, ";", "\n"), 0)
	if e != api.OK {
		panic(fmt.Sprintf("no program: %q, instruction %d: %d", text, line, e))
	}
	return code
}

// programOf reads a program: its priority, `:`, and its instructions.
func programOf(text string) api.Program {
	pri, code, _ := strings.Cut(text, ":")
	n, e := strconv.Atoi(pri)
	if e != nil {
		panic("no priority: " + text)
	}
	s := api.Space{Perm: []int{api.PmExec, api.PmExec, api.PmRead + api.PmWrite, api.PmRead, 0, api.PmRead + api.PmWrite}, Bytes: make([]byte, spaceTo)}
	if copied := copy(s.Bytes[:dataAt], codeOf(code)); copied != len(codeOf(code)) {
		panic("too long: " + text)
	}
	return api.Program{Name: "p", Space: s, Stack: fixedAt, Pri: n}
}

// bootOf returns a configuration: the rates of the clocks, and programs. Its time slice is 4, and it has 3 blocks.
func bootOf(rates string, programs ...string) api.Boot {
	b := api.Boot{Blocks: 3, Quantum: 4}
	for _, r := range rates {
		b.Rates = append(b.Rates, int64(r-'0'))
	}
	for _, p := range programs {
		b.Programs = append(b.Programs, programOf(p))
	}
	return b
}

// scene is a kernel that makes transitions, each of which is compared with the model.
type scene struct {
	api.Kern
	t *testing.T
}

// newScene returns the first state of a configuration.
func newScene(t *testing.T, rates string, programs ...string) *scene {
	t.Helper()
	k, e := kernel.New(bootOf(rates, programs...))
	if e != api.OK {
		t.Fatalf("New: %d", e)
	}
	return &scene{k, t}
}

// do makes transitions, and expects their events.
func (s *scene) do(picks, want string) {
	s.t.Helper()
	var all []api.Event
	for _, p := range picksOf(picks) {
		ahead := s.Kern
		k, events, e := kernel.Step(ahead, p)
		if e != api.OK {
			s.t.Fatalf("%v of\n%s\nerror %d", p, show(ahead), e)
		}
		placed(s.t, k, ahead.Clocks[p.Cpu].Now, p.Cpu, events)
		wantK, wantEvents, _ := modelTransition(ahead, p, nil)
		if !equal(k, wantK) || !equal(events, wantEvents) {
			s.t.Fatalf("%v of\n%s\nis\n%s\n%s; want\n%s\n%s", p, show(ahead), show(k), showEvents(events), show(wantK), showEvents(wantEvents))
		}
		s.Kern, all = k, append(all, events...)
	}
	if got := showEvents(all); got != want {
		s.t.Errorf("%s: %s; want %s, in\n%s", picks, got, want, show(s.Kern))
	}
}

// skip makes transitions, whatever their events are.
func (s *scene) skip(picks string) {
	s.t.Helper()
	k, _, e := kernel.Run(s.Kern, picksOf(picks))
	if e != api.OK {
		s.t.Fatalf("%s: error %d", picks, e)
	}
	s.Kern = k
}

// is expects a thread as showThread writes it.
func (s *scene) is(tid int, want string) {
	s.t.Helper()
	if got := showThread(s.Kern, tid); got != want {
		s.t.Errorf("thread %d is %s; want %s", tid, got, want)
	}
}

// placed expects processor, time and process of the events of a transition.
func placed(t *testing.T, k api.Kern, now int64, cpu int, events []api.Event) {
	t.Helper()
	for _, e := range events {
		pid := -1
		if e.Tid >= 0 && e.Tid < len(k.Threads) {
			pid = k.Threads[e.Tid].Pid
		}
		if e.Cpu != cpu || e.Time != now || e.Pid != pid {
			t.Errorf("%s: processor %d, time %d, process %d; want %d, %d, %d", showEvent(e), e.Cpu, e.Time, e.Pid, cpu, now, pid)
		}
	}
}
