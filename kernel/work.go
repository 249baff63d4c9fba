package kernel

import "tapline/api"

// work is a state while changes are made to it. Wherever a lower layer is called with a part of it, this part is valid, and has the threads and processors that are named: such calls return no error.
type work struct {
	api.Kern
	cpu    int   // the processor that makes a transition
	now    int64 // its clock ahead of the transition
	events chan api.Event
}

// left is the panic with which changes leave that end early: with an error, or with OK if nothing more happens.
type left api.Errno

// leave ends the changes: nothing more happens.
func leave() {
	panic(left(api.OK))
}

// demand leaves with an error unless something holds.
func demand(holds bool, e api.Errno) {
	if !holds {
		panic(left(e))
	}
}

// leaving makes changes, and returns the error with which they leave.
func leaving(changes func()) (e api.Errno) {
	defer func() {
		if x := recover(); x != nil {
			e = api.Errno(x.(left)) // changes panic with nothing else
		}
	}()
	changes()
	return api.OK
}

// do makes changes, and returns their events, and the error with which they leave.
func (w *work) do(changes func()) ([]api.Event, api.Errno) {
	events := make(chan api.Event)
	w.events = events
	var e api.Errno
	go func() {
		// What is done behind close could go on behind the return of do.
		defer close(events)
		e = leaving(changes)
	}()
	var out []api.Event
	for event := range events {
		out = append(out, event)
	}
	return out, e
}

// run makes transitions on a copy of k, and returns it, and their events.
func run(k api.Kern, l []api.Pick, effect effectOf) (api.Kern, []api.Event, api.Errno) {
	if e := Check(k); e != api.OK {
		return api.Kern{}, nil, e
	}
	if len(l) > api.MaxPicks {
		return api.Kern{}, nil, api.ErrLong
	}
	w := &work{Kern: copied(k)}
	var out []api.Event
	for _, p := range l {
		events, e := w.do(func() { w.transit(p, effect) })
		if e != api.OK {
			return api.Kern{}, nil, e
		}
		w.Clocks[p.Cpu].Now += w.Clocks[p.Cpu].Rate
		out = append(out, events...)
	}
	return w.Kern, out, api.OK
}

// control makes a change on a copy of k, and returns it, and whether something has changed; its events are nobody's.
func control(k api.Kern, change func(w *work) bool) (api.Kern, bool, api.Errno) {
	if e := Check(k); e != api.OK {
		return api.Kern{}, false, e
	}
	w, changed := &work{Kern: copied(k)}, false
	if _, e := w.do(func() { changed = change(w) }); e != api.OK {
		return api.Kern{}, false, e
	}
	return w.Kern, changed, api.OK
}

// tell sends an event about a thread, or about nobody.
func (w *work) tell(kind, tid int, args ...int64) {
	w.tellAt(0, kind, tid, args...)
}

// tellAt sends an event that has an address.
func (w *work) tellAt(at int64, kind, tid int, args ...int64) {
	e := api.Event{Kind: kind, Cpu: w.cpu, Time: w.now, Pid: nobody, Tid: tid, At: at}
	if tid != nobody {
		e.Pid = w.Threads[tid].Pid
	}
	copy(e.Args[:], args)
	w.events <- e
}

// tellReady sends the event that a thread has become ready.
func (w *work) tellReady(tid int) {
	s := w.slot(tid)
	w.tell(api.EvEnqueue, tid, int64(s.Cpu), int64(s.Pri))
}

// slot returns a thread as the scheduler sees it.
func (w *work) slot(tid int) api.Slot {
	return w.Sched.Threads[tid]
}

// space returns the address space of a thread's process.
func (w *work) space(tid int) *api.Space {
	return &w.Procs[w.Threads[tid].Pid].Space
}
