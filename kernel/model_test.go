package kernel_test

import (
	"bytes"
	"reflect"
	"regexp"
	"slices"

	"tapline/api"
	"tapline/cpu"
	"tapline/mem"
	"tapline/sched"
)

// The model is one state that is written to, and a list of events; it takes the lower layers' words for granted, and shares nothing with the package.
type model struct {
	api.Kern
	cpu    int
	now    int64
	events []api.Event
}

// event adds an event to the list.
func (m *model) event(kind, tid int, args ...int64) {
	e := api.Event{Kind: kind, Cpu: m.cpu, Time: m.now, Tid: -1, Pid: -1}
	if tid >= 0 {
		e.Tid, e.Pid = tid, m.Threads[tid].Pid
	}
	for i, a := range args {
		e.Args[i] = a
	}
	m.events = append(m.events, e)
}

// eventAt adds an event with an address.
func (m *model) eventAt(at int64, kind, tid int, args ...int64) {
	m.event(kind, tid, args...)
	m.events[len(m.events)-1].At = at
}

// sched takes a new state of the scheduler; there is no error.
func (m *model) queues(s api.Sched, e api.Errno) {
	if e != api.OK {
		panic("an error of the scheduler")
	}
	m.Sched = s
}

// modelTransition is what the chapter says of a transition; the effect is given, or nil.
func modelTransition(k api.Kern, p api.Pick, given *api.Effect) (api.Kern, []api.Event, api.Errno) {
	if !modelValid(k) {
		return api.Kern{}, nil, api.ErrKern
	}
	if p.Cpu < 0 || p.Cpu >= len(k.Clocks) || p.Kind != 0 && p.Kind != 1 && p.Kind != 2 {
		return api.Kern{}, nil, api.ErrPick
	}
	m := &model{Kern: clone(k), cpu: p.Cpu, now: k.Clocks[p.Cpu].Now}
	later := m.now + k.Clocks[p.Cpu].Rate
	if later > 1<<40 {
		return api.Kern{}, nil, api.ErrLong
	}
	e := api.OK
	switch p.Kind {
	case api.PkTimer:
		m.event(api.EvTick, m.Sched.Cpus[p.Cpu].Run)
		m.Sched, _, _ = sched.Tick(m.Sched, p.Cpu)
	case api.PkDisk:
		m.disk()
	default:
		e = m.step(given)
	}
	if e != api.OK {
		return api.Kern{}, nil, e
	}
	m.Clocks[p.Cpu].Now = later
	return m.Kern, m.events, api.OK
}

// modelRun is what the chapter says of Run.
func modelRun(k api.Kern, l []api.Pick) (api.Kern, []api.Event, api.Errno) {
	if !modelValid(k) {
		return api.Kern{}, nil, api.ErrKern
	}
	if len(l) > 2000 {
		return api.Kern{}, nil, api.ErrLong
	}
	var all []api.Event
	k = clone(k)
	for _, p := range l {
		next, events, e := modelTransition(k, p, nil)
		if e != api.OK {
			return api.Kern{}, nil, e
		}
		k, all = next, append(all, events...)
	}
	return k, all, api.OK
}

// modelExecutes returns the thread that executes an instruction, or -1.
func modelExecutes(k api.Kern, p api.Pick) int {
	if p.Kind == api.PkStep && !sched.Due(k.Sched, p.Cpu) {
		return k.Sched.Cpus[p.Cpu].Run
	}
	return -1
}

func (m *model) enqueue(tid int) {
	m.event(api.EvEnqueue, tid, int64(m.Sched.Threads[tid].Cpu), int64(m.Sched.Threads[tid].Pri))
}

func (m *model) step(given *api.Effect) api.Errno {
	q := m.Sched.Cpus[m.cpu]
	if q.Run == -1 && len(q.Ready) == 0 {
		s, u, e := sched.Steal(m.Sched, m.cpu)
		m.queues(s, e)
		if u >= 0 {
			m.event(api.EvEnqueue, u, int64(m.cpu), int64(s.Threads[u].Pri))
		}
	}
	if sched.Due(m.Sched, m.cpu) {
		s, runs, e := sched.Switch(m.Sched, m.cpu)
		m.queues(s, e)
		if q.Run >= 0 {
			m.event(api.EvOff, q.Run, api.StReady)
			m.event(api.EvEnqueue, q.Run, int64(m.cpu), int64(s.Threads[q.Run].Pri))
		}
		m.event(api.EvOn, runs, int64(s.Threads[runs].Pri))
		return api.OK
	}
	if q.Run < 0 {
		return api.OK
	}
	if q.Left == 0 {
		m.Sched.Cpus[m.cpu].Left = m.Sched.Quantum
	}
	return m.execute(q.Run, given)
}

func (m *model) execute(tid int, given *api.Effect) api.Errno {
	pid := m.Threads[tid].Pid
	pc := m.Threads[tid].Regs.Pc
	space := m.Procs[pid].Space
	x, e := cpu.Step(space, m.Threads[tid].Regs)
	if given != nil {
		x = *given
	}
	if e != api.OK {
		panic("an error of cpu.Step")
	}
	after, e := cpu.Apply(space, x)
	if e != api.OK {
		return e
	}
	switch x.Trap.Kind {
	case 0, 1:
		m.eventAt(pc, api.EvInsn, tid, int64(x.Insn.Op))
		m.Procs[pid].Space = after
		m.Threads[tid].Regs = x.Regs
		if x.Trap.Kind == 1 {
			m.call(tid, pid, x.Trap.N)
		}
	case 2, 3, 4, 5:
		m.eventAt(pc, api.EvFault, tid, int64(x.Trap.Kind), int64(x.Trap.Fault.Kind), x.Trap.Fault.At)
		m.kill(pid, 128+int64(x.Trap.Kind))
	default:
		return api.ErrArg
	}
	return api.OK
}

// alive returns how many threads of a process have not ended.
func (m *model) alive(pid int) int {
	n := 0
	for tid, t := range m.Threads {
		if t.Pid == pid && m.Sched.Threads[tid].State != api.StDead {
			n++
		}
	}
	return n
}

func (m *model) kill(pid int, status int64) {
	for tid := range m.Threads {
		state := m.Sched.Threads[tid].State
		if m.Threads[tid].Pid != pid || state == api.StDead {
			continue
		}
		m.event(api.EvExit, tid, status)
		if state == api.StRun {
			m.event(api.EvOff, tid, api.StDead)
		}
		m.queues(sched.End(m.Sched, tid))
		m.Threads[tid].Wait, m.Threads[tid].Chan, m.Threads[tid].Sys = 0, 0, -1
		var queue []api.Request
		for _, r := range m.Disk.Queue {
			if r.Tid != tid {
				queue = append(queue, r)
			}
		}
		m.Disk.Queue = queue
	}
	m.Procs[pid].Dead = true
	m.Procs[pid].Status = status
}

// back is what `to return` means, and resume what `is resumed` means.
func (m *model) back(tid, n int, r int64) {
	m.Threads[tid].Regs.R[0] = r
	m.event(api.EvReturn, tid, int64(n), r)
}

func (m *model) resume(tid int, r int64) {
	n := m.Threads[tid].Sys
	m.Threads[tid].Wait, m.Threads[tid].Chan, m.Threads[tid].Sys = 0, 0, -1
	s, _, e := sched.Wake(m.Sched, tid)
	m.queues(s, e)
	m.enqueue(tid)
	m.back(tid, n, r)
}

// may reports whether the device may transfer a block.
func may(s api.Space, at int64, write bool) bool {
	for i := range int64(16) {
		page := (at + i) / 64
		if at < 0 || at > 2048 || page >= int64(len(s.Perm)) {
			return false
		}
		if perm := s.Perm[page]; write && perm != 1 && perm != 3 || !write && perm != 3 {
			return false
		}
	}
	return true
}

func bit(is bool) int64 {
	return map[bool]int64{true: 1}[is]
}

func (m *model) disk() {
	if len(m.Disk.Queue) == 0 {
		return
	}
	r := m.Disk.Queue[0]
	m.Disk.Queue = append([]api.Request{}, m.Disk.Queue[1:]...)
	space := m.Procs[m.Threads[r.Tid].Pid].Space
	result := int64(-1)
	if may(space, r.At, r.Write) {
		result = 0
		if part := space.Bytes[r.At : r.At+16]; r.Write {
			m.Disk.Blocks[r.Block] = bytes.Clone(part)
		} else {
			copy(part, m.Disk.Blocks[r.Block])
		}
	}
	m.event(api.EvDone, r.Tid, int64(r.Block), bit(r.Write))
	m.resume(r.Tid, result)
}

// off blocks the thread that makes a call.
func (m *model) off(tid, why int, channel int64, n int) {
	m.Threads[tid].Wait, m.Threads[tid].Chan, m.Threads[tid].Sys = why, channel, n
	m.event(api.EvOff, tid, api.StBlock)
	m.queues(sched.Block(m.Sched, tid))
}

func (m *model) call(tid, pid, n int) {
	r := m.Threads[tid].Regs.R
	m.event(api.EvEntry, tid, int64(n), r[0], r[1], r[2])
	result := int64(-1)
	switch n {
	case api.SysExit:
		if m.alive(pid) == 1 {
			m.kill(pid, r[0])
			return
		}
		m.event(api.EvExit, tid, r[0])
		m.event(api.EvOff, tid, api.StDead)
		m.queues(sched.End(m.Sched, tid))
		return
	case api.SysPid:
		result = int64(pid)
	case api.SysTid:
		result = int64(tid)
	case api.SysTime:
		result = m.now
	case api.SysYield:
		m.queues(sched.Yield(m.Sched, m.cpu))
		result = 0
	case api.SysSpawn:
		result = m.spawn(tid, pid, r)
	case api.SysPri:
		if r[0] >= 0 && r[0] <= 7 {
			result = int64(m.Sched.Threads[tid].Pri)
			m.queues(sched.SetPri(m.Sched, tid, int(r[0])))
		}
	case api.SysSleep:
		m.off(tid, api.WtSleep, r[0], api.SysSleep)
		return
	case api.SysWake:
		result = 0
		for u := range m.Threads {
			if m.Threads[u].Wait == api.WtSleep && m.Threads[u].Chan == r[0] {
				m.event(api.EvWake, u, r[0])
				m.resume(u, 0)
				result++
			}
		}
	case api.SysRead, api.SysWrite:
		write := n == api.SysWrite
		if r[0] >= 0 && r[0] < int64(len(m.Disk.Blocks)) && may(m.Procs[pid].Space, r[1], write) {
			m.Disk.Queue = append(m.Disk.Queue, api.Request{Tid: tid, Block: int(r[0]), Write: write, At: r[1]})
			m.event(api.EvStart, tid, r[0], bit(write))
			m.off(tid, api.WtIo, 0, n)
			return
		}
	case api.SysProtect:
		s := m.Procs[pid].Space
		if r[0] >= 0 && r[0] < int64(len(s.Perm)) && s.Perm[r[0]] != api.PmExec && (r[1] == 0 || r[1] == 1 || r[1] == 3) {
			s.Perm[r[0]] = int(r[1])
			result = 0
		}
	case api.SysKill:
		if r[0] >= 0 && r[0] < int64(len(m.Procs)) && !m.Procs[r[0]].Dead {
			m.kill(int(r[0]), r[1])
			if int(r[0]) == pid {
				return
			}
			result = 0
		}
	}
	m.back(tid, n, result)
}

func (m *model) spawn(tid, pid int, r [8]int64) int64 {
	if len(m.Threads) == 16 {
		return -1
	}
	v := api.Thread{Pid: pid, Sys: -1}
	v.Regs.R[0], v.Regs.R[7], v.Regs.Pc = r[1], r[2], r[0]
	m.Threads = append(m.Threads, v)
	s, number, e := sched.Add(m.Sched, m.Sched.Threads[tid].Pri, m.cpu)
	m.queues(s, e)
	m.event(api.EvSpawn, number, int64(tid))
	m.enqueue(number)
	return int64(number)
}

var (
	symbolName  = regexp.MustCompile(`^[A-Za-z_][A-Za-z0-9_]{0,30}$`)
	processName = regexp.MustCompile(`^[!-~]{1,31}$`)
)

// modelValid reports whether a state is valid.
func modelValid(k api.Kern) bool {
	if sched.Check(k.Sched) != api.OK || len(k.Sched.Threads) != len(k.Threads) || len(k.Sched.Cpus) != len(k.Clocks) || len(k.Procs) < 1 || len(k.Procs) > 8 || len(k.Disk.Blocks) < 1 || len(k.Disk.Blocks) > 16 {
		return false
	}
	for _, c := range k.Clocks {
		if c.Rate <= 0 || c.Rate >= 10 || c.Now < 0 || c.Now > 1<<40 {
			return false
		}
	}
	for _, b := range k.Disk.Blocks {
		if len(b) != 16 {
			return false
		}
	}
	alive := make([]int, len(k.Procs))
	for tid, t := range k.Threads {
		if t.Pid < 0 || t.Pid >= len(k.Procs) || !modelWaits(t, k.Sched.Threads[tid].State) {
			return false
		}
		if k.Sched.Threads[tid].State != api.StDead {
			alive[t.Pid]++
		}
	}
	for pid, p := range k.Procs {
		if !modelProc(p) || p.Dead != (alive[pid] == 0) || !p.Dead && p.Status != 0 {
			return false
		}
	}
	return modelQueue(k)
}

// modelWaits reports whether a thread in a state of the scheduler waits as it has to.
func modelWaits(t api.Thread, state int) bool {
	type how struct {
		blocked   bool
		wait, sys int
		channel   int64
	}
	h := how{state == api.StBlock, t.Wait, t.Sys, t.Chan}
	if h.wait == 1 {
		h.channel = 0
	}
	return slices.Contains([]how{{false, 0, -1, 0}, {true, 1, 6, 0}, {true, 2, 8, 0}, {true, 2, 9, 0}, {true, 3, -1, 0}}, h)
}

// modelProc reports whether name, space and symbols of a process are those of a valid state.
func modelProc(p api.Proc) bool {
	if !processName.MatchString(p.Name) || mem.Check(p.Space) != api.OK || len(p.Syms) > 32 {
		return false
	}
	owner := map[int64]int{} // by address
	names := map[string]bool{}
	before := int64(-1)
	for i, s := range p.Syms {
		if !symbolName.MatchString(s.Name) || names[s.Name] || s.At <= before || s.At > 2048 || s.Size <= 0 || s.Size > 2048 {
			return false
		}
		names[s.Name] = true
		before = s.At
		for at := s.At; at < s.At+s.Size; at++ {
			if _, ok := owner[at]; ok || at >= int64(len(p.Space.Bytes)) {
				return false
			}
			owner[at] = i
		}
	}
	return true
}

// modelQueue reports whether the requests are those of the threads that wait for the device.
func modelQueue(k api.Kern) bool {
	requests := map[int]int{}
	for _, r := range k.Disk.Queue {
		if r.Tid < 0 || r.Tid >= len(k.Threads) || r.Block < 0 || r.Block >= len(k.Disk.Blocks) {
			return false
		}
		t := k.Threads[r.Tid]
		if requests[r.Tid]++; requests[r.Tid] > 1 || t.Wait != api.WtIo || r.Write != (t.Sys == api.SysWrite) {
			return false
		}
	}
	for tid, t := range k.Threads {
		if t.Wait == api.WtIo && requests[tid] != 1 {
			return false
		}
	}
	return true
}

// deep reports whether the elements of a slice may have slices.
func deep(v reflect.Value) bool {
	kind := v.Type().Elem().Kind()
	return kind == reflect.Slice || kind == reflect.Struct
}

// copyOf returns v in new memory; every slice gets so much spare room, with values that are not zero.
func copyOf(v reflect.Value, room int) reflect.Value {
	out := reflect.New(v.Type()).Elem()
	switch v.Kind() {
	case reflect.Slice:
		if v.IsNil() && room == 0 {
			return out
		}
		whole := reflect.MakeSlice(v.Type(), v.Len()+room, v.Len()+room)
		if !deep(v) {
			reflect.Copy(whole, v)
		}
		for i := 0; i < v.Len() && deep(v); i++ {
			whole.Index(i).Set(copyOf(v.Index(i), room))
		}
		for i := range room {
			fill(whole.Index(v.Len() + i))
		}
		return whole.Slice(0, v.Len())
	case reflect.Struct:
		for i := range v.NumField() {
			out.Field(i).Set(copyOf(v.Field(i), room))
		}
		return out
	}
	out.Set(v)
	return out
}

// fill makes the numbers of a value 77.
func fill(v reflect.Value) {
	switch {
	case v.CanInt():
		v.SetInt(77)
	case v.CanUint():
		v.SetUint(77)
	case v.Kind() == reflect.Struct:
		for i := range v.NumField() {
			fill(v.Field(i))
		}
	}
}

// clone returns a value in new memory.
func clone[T any](v T) T {
	return copyOf(reflect.ValueOf(&v).Elem(), 0).Interface().(T)
}

// roomy returns a value in new memory with spare room behind each slice.
func roomy[T any](v T) T {
	return copyOf(reflect.ValueOf(&v).Elem(), 3).Interface().(T)
}

// whole returns a value with each slice extended to its capacity.
func whole[T any](v T) T {
	out := clone(v)
	extend(reflect.ValueOf(&v).Elem(), reflect.ValueOf(&out).Elem())
	return out
}

func extend(from, to reflect.Value) {
	switch from.Kind() {
	case reflect.Slice:
		all := from.Slice(0, from.Cap())
		to.Set(reflect.MakeSlice(from.Type(), from.Cap(), from.Cap()))
		reflect.Copy(to, all)
		for i := 0; i < all.Len() && deep(all); i++ {
			extend(all.Index(i), to.Index(i))
		}
	case reflect.Struct:
		for i := range from.NumField() {
			extend(from.Field(i), to.Field(i))
		}
	default:
		to.Set(from)
	}
}

// part is the memory behind a slice.
type part struct {
	from, to uintptr
}

// parts returns the memory behind the slices of values.
func parts(values ...any) []part {
	var out []part
	for _, v := range values {
		out = append(out, partsOf(reflect.ValueOf(v))...)
	}
	return out
}

func partsOf(v reflect.Value) []part {
	var out []part
	switch v.Kind() {
	case reflect.Slice:
		if size := uintptr(v.Cap()) * v.Type().Elem().Size(); size > 0 {
			out = append(out, part{v.Pointer(), v.Pointer() + size})
		}
		for i := 0; i < v.Len() && deep(v); i++ {
			out = append(out, partsOf(v.Index(i))...)
		}
	case reflect.Struct:
		for i := range v.NumField() {
			out = append(out, partsOf(v.Field(i))...)
		}
	}
	return out
}

// overlap reports whether some memory of a is memory of b.
func overlap(a, b []part) bool {
	return slices.ContainsFunc(a, func(p part) bool {
		return slices.ContainsFunc(b, func(q part) bool { return p.from < q.to && q.from < p.to })
	})
}

// overlaps reports whether two of the parts share memory.
func overlaps(l []part) bool {
	for i := range l {
		if overlap(l[i:i+1], l[i+1:]) {
			return true
		}
	}
	return false
}

// plain returns a value with nil in place of each empty slice, so that reflect.DeepEqual compares as the document does.
func plain[T any](v T) T {
	out := clone(v)
	empty(reflect.ValueOf(&out).Elem())
	return out
}

func empty(v reflect.Value) {
	switch v.Kind() {
	case reflect.Slice:
		if v.Len() == 0 {
			v.SetZero()
		}
		for i := 0; i < v.Len() && deep(v); i++ {
			empty(v.Index(i))
		}
	case reflect.Struct:
		for i := range v.NumField() {
			empty(v.Field(i))
		}
	}
}

// equal compares two values without the package; nil and empty lists are the same.
func equal[T any](a, b T) bool {
	return reflect.DeepEqual(plain(a), plain(b))
}

// isZero reports whether a value is zero; an empty list is.
func isZero[T any](v T) bool {
	p := plain(v)
	return reflect.ValueOf(&p).Elem().IsZero()
}
