package sched_test

import (
	"fmt"
	"math"
	"math/rand"
	"reflect"
	"slices"
	"strconv"
	"strings"
	"testing"

	"tapline/api"
	"tapline/sched"
)

// letters has the states of threads as the tests write them.
var letters = map[string]int{"r": api.StReady, "x": api.StRun, "b": api.StBlock, "d": api.StDead}

func number(word string) int {
	n, e := strconv.Atoi(word)
	if e != nil {
		panic("no number: " + word)
	}
	return n
}

func numbers(words []string) []int {
	var out []int
	for _, w := range words {
		out = append(out, number(w))
	}
	return out
}

// state reads a state: the quantum, the threads (priority, letter, processor), and for each processor the running thread, what is left, and Ready: `q2 | 3r0 3r0 5x0 | 2/2 0 1` is a state with the threads 0 and 1 ready, and 2 running with 2 left; the run of an idle processor is `-1`.
func state(text string) api.Sched {
	parts := strings.Split(text, "|")
	out := api.Sched{Quantum: number(strings.TrimSpace(parts[0])[1:])}
	for _, word := range strings.Fields(parts[1]) {
		at := strings.IndexAny(word, "rxbd")
		out.Threads = append(out.Threads, api.Slot{Pri: number(word[:at]), State: letters[word[at:at+1]], Cpu: number(word[at+1:])})
	}
	for _, part := range parts[2:] {
		words := strings.Fields(part)
		run, left, _ := strings.Cut(words[0], "/")
		out.Cpus = append(out.Cpus, api.CpuQ{Run: number(run), Left: number(left), Ready: numbers(words[1:])})
	}
	return out
}

// letterOf returns the letter of a thread's State; one that is none is written as its number.
func letterOf(state int) string {
	for l, n := range letters {
		if n == state {
			return l
		}
	}
	return "?" + strconv.Itoa(state) + "?"
}

// show writes a state as state reads it.
func show(s api.Sched) string {
	var b strings.Builder
	fmt.Fprintf(&b, "q%d |", s.Quantum)
	for _, t := range s.Threads {
		fmt.Fprintf(&b, " %d%s%d", t.Pri, letterOf(t.State), t.Cpu)
	}
	for _, q := range s.Cpus {
		fmt.Fprintf(&b, " | %d/%d", q.Run, q.Left)
		for _, thr := range q.Ready {
			fmt.Fprintf(&b, " %d", thr)
		}
	}
	return b.String()
}

// op is a call: `Add` has a priority and a processor as its numbers, `SetPri` a thread and a priority, all others have one number.
type op struct {
	name string
	a, b int
}

// opOf reads a call: `SetPri 1 7`.
func opOf(text string) op {
	words := strings.Fields(text)
	args := append(numbers(words[1:]), 0)
	return op{words[0], args[0], args[1]}
}

// opNames are the functions that return a state of a state.
var opNames = []string{"Add", "End", "Block", "Wake", "Switch", "Tick", "Yield", "SetPri", "Steal"}

// outcome has what a call returns: the state, the number or the bool if it returns one, and the error.
type outcome struct {
	state api.Sched
	n     int
	flag  bool
	err   api.Errno
}

func (o outcome) String() string {
	return fmt.Sprintf("%s, %d, %v, error %d", show(o.state), o.n, o.flag, o.err)
}

// call calls the function of an op.
func call(s api.Sched, o op) outcome {
	var out outcome
	switch o.name {
	case "Add":
		out.state, out.n, out.err = sched.Add(s, o.a, o.b)
	case "End":
		out.state, out.err = sched.End(s, o.a)
	case "Block":
		out.state, out.err = sched.Block(s, o.a)
	case "Wake":
		out.state, out.flag, out.err = sched.Wake(s, o.a)
	case "Switch":
		out.state, out.n, out.err = sched.Switch(s, o.a)
	case "Tick":
		out.state, out.flag, out.err = sched.Tick(s, o.a)
	case "Yield":
		out.state, out.err = sched.Yield(s, o.a)
	case "SetPri":
		out.state, out.err = sched.SetPri(s, o.a, o.b)
	case "Steal":
		out.state, out.n, out.err = sched.Steal(s, o.a)
	default:
		panic("no function " + o.name)
	}
	return out
}

// must is call, and fails if it returns an error.
func must(t *testing.T, s api.Sched, o op) outcome {
	t.Helper()
	out := call(s, o)
	if out.err != api.OK {
		t.Fatalf("%v of %s: error %d", o, show(s), out.err)
	}
	return out
}

// run calls some functions, one after the other, and returns the last outcome.
func run(t *testing.T, s api.Sched, texts ...string) outcome {
	t.Helper()
	out := outcome{state: s}
	for _, text := range texts {
		out = must(t, out.state, opOf(text))
	}
	return out
}

// The model has no queues: each thread that is ready has a rank, and of two threads of one priority the one with the smaller rank is ahead. It shares nothing with the package.

type modelThread struct {
	pri, cpu, state, rank int
}

type model struct {
	quantum   int
	run, left []int
	threads   []modelThread
}

// modelOf returns the model of a valid state.
func modelOf(s api.Sched) model {
	out := model{quantum: s.Quantum}
	for _, t := range s.Threads {
		out.threads = append(out.threads, modelThread{pri: t.Pri, cpu: t.Cpu, state: t.State})
	}
	for _, q := range s.Cpus {
		out.run = append(out.run, q.Run)
		out.left = append(out.left, q.Left)
		for rank, thr := range q.Ready {
			out.threads[thr].rank = rank
		}
	}
	return out
}

// ready returns the ready threads of a processor, by their priorities and ranks.
func (m model) ready(cpu int) []int {
	var out []int
	for pri := 7; pri >= 0; pri-- {
		var of []int
		for thr, t := range m.threads {
			if t.state == api.StReady && t.cpu == cpu && t.pri == pri {
				of = append(of, thr)
			}
		}
		slices.SortFunc(of, func(a, b int) int { return m.threads[a].rank - m.threads[b].rank })
		out = append(out, of...)
	}
	return out
}

// state returns the state of the model.
func (m model) state() api.Sched {
	out := api.Sched{Quantum: m.quantum}
	for _, t := range m.threads {
		out.Threads = append(out.Threads, api.Slot{Pri: t.pri, Cpu: t.cpu, State: t.state})
	}
	for cpu := range m.run {
		out.Cpus = append(out.Cpus, api.CpuQ{Run: m.run[cpu], Left: m.left[cpu], Ready: m.ready(cpu)})
	}
	return out
}

// last and first make a thread ready, with a rank behind, or ahead of, all the others.
func (m model) last(thr int) {
	rank := 0
	for _, t := range m.threads {
		rank = max(rank, t.rank+1)
	}
	m.threads[thr].state, m.threads[thr].rank = api.StReady, rank
}

func (m model) first(thr int) {
	rank := 0
	for _, t := range m.threads {
		rank = min(rank, t.rank-1)
	}
	m.threads[thr].state, m.threads[thr].rank = api.StReady, rank
}

func (m model) due(cpu int) bool {
	run := m.run[cpu]
	for _, t := range m.threads {
		if t.state != api.StReady || t.cpu != cpu {
			continue
		}
		if run == -1 || t.pri > m.threads[run].pri || t.pri == m.threads[run].pri && m.left[cpu] == 0 {
			return true
		}
	}
	return false
}

// idle takes a thread off the processor on which it runs, if it does.
func (m model) idle(thr int) {
	if at := slices.Index(m.run, thr); at >= 0 {
		m.run[at], m.left[at] = -1, 0
	}
}

func (m model) doSwitch(cpu int) int {
	old := m.run[cpu]
	if !m.due(cpu) {
		if old != -1 && m.left[cpu] == 0 {
			m.left[cpu] = m.quantum
		}
		return old
	}
	if old != -1 && m.left[cpu] > 0 {
		m.first(old)
	} else if old != -1 {
		m.last(old)
	}
	next := m.ready(cpu)[0]
	m.threads[next].state = api.StRun
	m.run[cpu], m.left[cpu] = next, m.quantum
	return next
}

func (m model) steal(cpu int) int {
	most, from := 0, -1
	for p := range m.run {
		n := 0
		for _, t := range m.threads {
			if t.cpu == p && (t.state == api.StRun || t.state == api.StReady) {
				n++
			}
		}
		if p == cpu && n > 0 {
			return -1
		}
		if n > most {
			most, from = n, p
		}
	}
	if most < 2 {
		return -1
	}
	thr := m.ready(from)[0]
	m.threads[thr].cpu = cpu
	return thr
}

// permitted has the states of the threads that an operation may name.
var permitted = map[string]string{"End": "rxb", "Block": "rx", "Wake": "b", "SetPri": "rxb"}

// modelError returns the error of an operation on a valid state.
func modelError(s api.Sched, o op) api.Errno {
	pri, cpu := o.b, o.a
	switch o.name {
	case "Add":
		pri, cpu = o.a, o.b
	case "End", "Block", "Wake", "SetPri":
		if o.a < 0 || o.a >= len(s.Threads) || !strings.Contains(permitted[o.name], letterOf(s.Threads[o.a].State)) {
			return api.ErrThread
		}
		cpu = 0
	}
	switch {
	case cpu < 0 || cpu >= len(s.Cpus) || o.name == "Yield" && s.Cpus[cpu].Run == -1:
		return api.ErrCpu
	case (o.name == "Add" || o.name == "SetPri") && (pri < 0 || pri > 7):
		return api.ErrArg
	case o.name == "Add" && len(s.Threads) == 16:
		return api.ErrLong
	}
	return api.OK
}

// modelCall returns what the chapter says of a call.
func modelCall(s api.Sched, o op) outcome {
	if !modelValid(s) {
		return outcome{err: api.ErrSched}
	}
	if e := modelError(s, o); e != api.OK {
		return outcome{err: e}
	}
	m := modelOf(s)
	var out outcome
	switch o.name {
	case "Add":
		out.n = len(m.threads)
		m.threads = append(m.threads, modelThread{pri: o.a, cpu: o.b})
		m.last(out.n)
	case "End":
		m.idle(o.a)
		m.threads[o.a].state = api.StDead
	case "Block":
		m.idle(o.a)
		m.threads[o.a].state = api.StBlock
	case "Wake":
		m.last(o.a)
		out.flag = m.due(m.threads[o.a].cpu)
	case "Switch":
		out.n = m.doSwitch(o.a)
	case "Tick":
		if m.run[o.a] != -1 && m.left[o.a] != 0 {
			m.left[o.a]--
		}
		out.flag = m.due(o.a)
	case "Yield":
		m.left[o.a] = 0
	case "SetPri":
		m.threads[o.a].pri = o.b
		if m.threads[o.a].state == api.StReady {
			m.last(o.a)
		}
	case "Steal":
		out.n = m.steal(o.a)
	}
	out.state = m.state()
	return out
}

// modelValid reports whether a state is valid: whether each thread stands where its State says, and nothing else stands anywhere.
func modelValid(s api.Sched) bool {
	if len(s.Cpus) == 0 || len(s.Cpus) > 4 || len(s.Threads) > 16 || s.Quantum <= 0 || s.Quantum > 20 {
		return false
	}
	runs, waits := map[[2]int]int{}, map[[2]int]int{} // by thread and processor
	standing := 0
	for cpu, q := range s.Cpus {
		if q.Left < 0 || q.Left > s.Quantum || q.Run == -1 && q.Left != 0 {
			return false
		}
		if q.Run != -1 {
			runs[[2]int{q.Run, cpu}]++
			standing++
		}
		before := math.MaxInt
		for _, thr := range q.Ready {
			if thr < 0 || thr >= len(s.Threads) || s.Threads[thr].Pri > before {
				return false
			}
			before = s.Threads[thr].Pri
			waits[[2]int{thr, cpu}]++
			standing++
		}
	}
	for thr, t := range s.Threads {
		place := [2]int{thr, t.Cpu}
		switch {
		case t.Pri < 0 || t.Pri > 7 || t.Cpu < 0 || t.Cpu >= len(s.Cpus) || t.State < 1 || t.State > 4:
			return false
		case t.State == api.StReady && waits[place] != 1 || t.State == api.StRun && runs[place] != 1:
			return false
		case t.State == api.StReady || t.State == api.StRun:
			standing--
		}
	}
	return standing == 0
}

// equal compares two states without the package; nil and empty lists are the same.
func equal(a, b api.Sched) bool {
	return show(a) == show(b)
}

// sameOutcome compares two outcomes without the package.
func sameOutcome(a, b outcome) bool {
	return equal(a.state, b.state) && a.n == b.n && a.flag == b.flag && a.err == b.err
}

// isZero reports whether an outcome has nothing but an error.
func isZero(o outcome) bool {
	return o.n == 0 && !o.flag && len(o.state.Cpus) == 0 && len(o.state.Threads) == 0 && o.state.Quantum == 0
}

// clone returns a state in new memory.
func clone(s api.Sched) api.Sched {
	out := api.Sched{Cpus: slices.Clone(s.Cpus), Threads: slices.Clone(s.Threads), Quantum: s.Quantum}
	for i := range out.Cpus {
		out.Cpus[i].Ready = slices.Clone(out.Cpus[i].Ready)
	}
	return out
}

// identical compares two states, and the memory behind their lists.
func identical(a, b api.Sched) bool {
	whole := func(s api.Sched) api.Sched {
		s.Cpus = slices.Clone(s.Cpus[:cap(s.Cpus)])
		for i, q := range s.Cpus {
			s.Cpus[i].Ready = q.Ready[:cap(q.Ready)]
		}
		s.Threads = s.Threads[:cap(s.Threads)]
		return s
	}
	return equal(a, b) && reflect.DeepEqual(whole(a), whole(b))
}

// maker makes states and calls from seeded numbers.
type maker struct {
	*rand.Rand
}

func newMaker() maker {
	return maker{rand.New(rand.NewSource(5))}
}

// valid returns a valid state. Some have only a few different priorities, so that many threads have the same one; some have few threads that are not ready, some have no threads on some processors.
func (m maker) valid() api.Sched {
	s := api.Sched{Quantum: 1 + m.Intn(1+m.Intn(20)), Cpus: make([]api.CpuQ, 1+m.Intn(4)), Threads: make([]api.Slot, m.Intn(17))}
	least := m.Intn(8)
	pris := 1 + m.Intn(8-least)
	used := m.Perm(len(s.Cpus))[:1+m.Intn(len(s.Cpus))]
	states := [][]int{{1, 1, 1, 2}, {1, 2, 3, 4}, {1, 1, 2, 3}, {2, 3, 3, 4}}[m.Intn(4)]
	for cpu := range s.Cpus {
		s.Cpus[cpu].Run = -1
	}
	for _, thr := range m.Perm(len(s.Threads)) {
		t := api.Slot{Pri: least + m.Intn(pris), Cpu: used[m.Intn(len(used))], State: states[m.Intn(4)]}
		q := &s.Cpus[t.Cpu]
		if t.State == api.StRun && q.Run != -1 {
			t.State = api.StReady
		}
		switch t.State {
		case api.StRun:
			q.Run, q.Left = thr, m.Intn(s.Quantum+1)>>m.Intn(3)
		case api.StReady:
			q.Ready = append(q.Ready, thr)
		}
		s.Threads[thr] = t
	}
	for _, q := range s.Cpus {
		slices.SortStableFunc(q.Ready, func(a, b int) int { return s.Threads[b].Pri - s.Threads[a].Pri })
	}
	return s
}

// broken returns a state with some change, which is mostly not valid.
func (m maker) broken() api.Sched {
	s := m.valid()
	q := &s.Cpus[m.Intn(len(s.Cpus))]
	n := m.Intn(22) - 2
	if len(s.Threads) > 0 && m.Intn(2) == 0 {
		t := &s.Threads[m.Intn(len(s.Threads))]
		*[]*int{&t.Pri, &t.Cpu, &t.State}[m.Intn(3)] = n % 10
		return s
	}
	switch m.Intn(7) {
	case 0:
		q.Run = n
	case 1:
		q.Left = n
	case 2:
		q.Ready = slices.Insert(q.Ready, m.Intn(len(q.Ready)+1), n)
	case 3:
		if len(q.Ready) > 0 {
			q.Ready[m.Intn(len(q.Ready))] = n
		}
	case 4:
		m.Shuffle(len(q.Ready), func(i, k int) { q.Ready[i], q.Ready[k] = q.Ready[k], q.Ready[i] })
	case 5:
		s.Quantum = n
	case 6:
		if len(q.Ready) > 0 {
			q.Ready = q.Ready[1:]
		}
	}
	return s
}

// op returns a call, mostly one with numbers of threads, processors and priorities that exist.
func (m maker) op(s api.Sched) op {
	o := op{name: opNames[m.Intn(len(opNames))]}
	arg := func(n int) int {
		switch m.Intn(30) {
		case 0:
			return []int{-1, n, math.MinInt, math.MaxInt, 1 << 32, -9}[m.Intn(6)]
		default:
			return m.Intn(max(n, 1))
		}
	}
	switch o.name {
	case "Add":
		o.a, o.b = arg(8), arg(len(s.Cpus))
	case "SetPri":
		o.a, o.b = arg(len(s.Threads)), arg(8)
	case "End", "Block", "Wake":
		o.a = arg(len(s.Threads))
	default:
		o.a = arg(len(s.Cpus))
	}
	return o
}

// every calls f with each valid state of one processor, with the Quantum 2, up to three threads, and the priorities 3, 4 and 5.
func every(f func(s api.Sched)) {
	for n := range 4 {
		everyThread(make([]api.Slot, n), 0, f)
	}
}

// everyThread calls f with each valid state whose first threads are given.
func everyThread(threads []api.Slot, from int, f func(s api.Sched)) {
	if from == len(threads) {
		everyQueue(threads, f)
		return
	}
	for pri := 3; pri <= 5; pri++ {
		for st := api.StReady; st <= api.StDead; st++ {
			threads[from] = api.Slot{Pri: pri, State: st}
			everyThread(threads, from+1, f)
		}
	}
}

// everyQueue calls f with each valid state of these threads.
func everyQueue(threads []api.Slot, f func(s api.Sched)) {
	var ready []int
	run := -1
	for thr, t := range threads {
		switch t.State {
		case api.StReady:
			ready = append(ready, thr)
		case api.StRun:
			run = thr
		}
	}
	for _, order := range permutations(ready) {
		for left := range 3 {
			s := api.Sched{Quantum: 2, Threads: threads, Cpus: []api.CpuQ{{Run: run, Left: left, Ready: order}}}
			if modelValid(s) {
				f(clone(s))
			}
		}
	}
}

func permutations(list []int) [][]int {
	if len(list) == 0 {
		return [][]int{nil}
	}
	var out [][]int
	for i, x := range list {
		for _, rest := range permutations(slices.Delete(slices.Clone(list), i, i+1)) {
			out = append(out, append([]int{x}, rest...))
		}
	}
	return out
}
