package kernel

import (
	"math"

	"tapline/api"
	"tapline/mem"
	"tapline/sched"
)

// call is a system call that a running thread makes: its number, and its arguments.
type call struct {
	*work
	tid    int
	number int
	args   [3]int64
}

// calls returns the table of the system calls, by their numbers.
func calls() []func(c call) {
	return []func(c call){
		api.SysExit:    call.exit,
		api.SysPid:     call.getPid,
		api.SysTid:     call.getTid,
		api.SysYield:   call.yield,
		api.SysSpawn:   call.spawn,
		api.SysPri:     call.setPri,
		api.SysSleep:   call.sleep,
		api.SysWake:    call.wake,
		api.SysRead:    call.request,
		api.SysWrite:   call.request,
		api.SysTime:    call.getTime,
		api.SysProtect: call.protect,
		api.SysKill:    call.killProcess,
	}
}

// enter makes a system call of a thread.
func (w *work) enter(tid, number int) {
	r := w.Threads[tid].Regs.R
	c := call{w, tid, number, [3]int64{r[0], r[1], r[2]}}
	c.tell(api.EvEntry, tid, int64(number), r[0], r[1], r[2])
	table := calls()
	c.require(has(table, number))
	table[number](c)
}

// result ends the call.
func (c call) result(v int64) {
	c.giveBack(c.tid, c.number, v)
}

// require refuses the call, and leaves, unless something holds.
func (c call) require(holds bool) {
	if !holds {
		c.result(refused)
		leave()
	}
}

// small returns an argument as an int. One that does not fit becomes -1: no page, process, block, priority or permission.
func small(v int64) int {
	if !within(v, 0, math.MaxInt32) {
		return -1
	}
	return int(v)
}

func (c call) exit() { c.end(c.tid, c.args[0]) }

func (c call) getPid() { c.result(int64(c.Threads[c.tid].Pid)) }

func (c call) getTid() { c.result(int64(c.tid)) }

func (c call) getTime() { c.result(c.now) }

func (c call) yield() {
	c.Sched, _ = sched.Yield(c.Sched, c.cpu)
	c.result(0)
}

func (c call) spawn() {
	regs := api.Regs{R: [8]int64{0: c.args[1], api.SP: c.args[2]}, Pc: c.args[0]}
	tid := len(c.Threads)
	e := begin(&c.Kern, c.Threads[c.tid].Pid, regs, c.slot(c.tid).Pri, c.cpu)
	c.require(e == api.OK)
	c.tell(api.EvSpawn, tid, int64(c.tid))
	c.tellReady(tid)
	c.result(int64(tid))
}

func (c call) setPri() {
	old := c.slot(c.tid).Pri
	queues, e := sched.SetPri(c.Sched, c.tid, small(c.args[0]))
	c.require(e == api.OK)
	c.Sched = queues
	c.result(int64(old))
}

func (c call) sleep() {
	c.waitFor(wait{why: api.WtSleep, channel: c.args[0], call: c.number})
}

func (c call) wake() {
	channel, woken := c.args[0], int64(0)
	asleep := having(c.Kern, func(tid int) bool {
		t := c.Threads[tid]
		return t.Wait == api.WtSleep && t.Chan == channel
	})
	for tid := range asleep {
		c.tell(api.EvWake, tid, channel)
		c.resume(tid, 0)
		woken++
	}
	c.result(woken)
}

// request makes a request of the device, which reads or writes a block.
func (c call) request() {
	block, at, write := small(c.args[0]), c.args[1], c.number == api.SysWrite
	c.require(has(c.Disk.Blocks, block) && transferable(*c.space(c.tid), at, write))
	c.Disk.Queue = append(c.Disk.Queue, api.Request{Tid: c.tid, Block: block, Write: write, At: at})
	c.tell(api.EvStart, c.tid, int64(block), flag(write))
	c.waitFor(wait{why: api.WtIo, call: c.number})
}

func (c call) protect() {
	space := c.space(c.tid)
	next, e := mem.Protect(*space, small(c.args[0]), small(c.args[1]))
	c.require(e == api.OK)
	*space = next
	c.result(0)
}

func (c call) killProcess() {
	pid := small(c.args[0])
	c.require(has(c.Procs, pid) && !c.Procs[pid].Dead)
	c.kill(pid, c.args[1])
	if c.slot(c.tid).State != api.StDead {
		c.result(0)
	}
}

// waitFor takes the thread off its processor until it is resumed.
func (c call) waitFor(how wait) {
	c.tell(api.EvOff, c.tid, api.StBlock)
	c.block(c.tid, how)
}
