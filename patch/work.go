package patch

import (
	"slices"
	"sort"

	"tapline/api"
	"tapline/cpu"
	"tapline/insn"
	"tapline/mem"
)

const (
	breakByte   = 204  // the encoding of InBreak
	mostWanted  = 1000 // how many enablings can want a breakpoint
	longestInsn = 12   // bytes of an encoding
)

// site is an address of a space, at which an instruction may stand.
type site struct {
	at int64
}

// breakpoint is a patched site, and how many enablings want it.
type breakpoint struct {
	site
	wanted int
}

// work is a valid patched space while changes are made to it, in memory of its own: the clean space, and the breakpoints by increasing addresses. The bytes under them are those of the clean space. The lower layers are called with valid spaces and well-formed instructions, and return no error but where one is examined.
type work struct {
	clean api.Space
	list  []breakpoint
}

// left is the panic with which work ends that cannot be done.
type left api.Errno

// demand leaves with an error unless something holds.
func demand(holds bool, e api.Errno) {
	if !holds {
		panic(left(e))
	}
}

// leaving does work, and returns the error with which it leaves.
func leaving(do func()) (e api.Errno) {
	defer func() {
		if x := recover(); x != nil {
			e = api.Errno(x.(left)) // work panics with nothing else
		}
	}()
	do()
	return api.OK
}

// change makes a change to a patched space, and returns it in new memory.
func change(p api.Patched, do func(w *work)) (out api.Patched, e api.Errno) {
	e = leaving(func() {
		w := opened(p)
		do(w)
		out = w.closed()
	})
	return out, e
}

// opened returns a patched space to work on; it leaves with ErrPatch unless p is valid.
func opened(p api.Patched) *work {
	demand(mem.Check(p.Space) == api.OK && len(p.L) <= api.MaxPatches, api.ErrPatch)
	w := &work{clean: copied(p.Space)}
	for i, x := range p.L {
		b := breakpoint{site{x.At}, x.N}
		demand(b.broken(p.Space) && 1 <= x.N && x.N <= mostWanted, api.ErrPatch)
		demand(i == 0 || p.L[i-1].At < x.At, api.ErrPatch)
		w.clean.Bytes[x.At] = x.Old
		w.list = append(w.list, b)
	}
	w.demandCode(api.ErrPatch)
	return w
}

// closed returns the patched space; no work can be done on it any more.
func (w *work) closed() api.Patched {
	out := api.Patched{Space: w.clean}
	for _, b := range w.list {
		out.L = append(out.L, api.Patch{At: b.at, Old: out.Space.Bytes[b.at], N: b.wanted})
		out.Space.Bytes[b.at] = breakByte
	}
	return out
}

// copied returns a space in new memory.
func copied(s api.Space) api.Space {
	return api.Space{Perm: slices.Clone(s.Perm), Bytes: slices.Clone(s.Bytes)}
}

// broken reports whether the byte at a site of a valid space is that of a breakpoint.
func (x site) broken(s api.Space) bool {
	b, _, _ := mem.Peek(s, x.at, 1)
	return len(b) == 1 && b[0] == breakByte
}

// instruction returns the instruction that stands at a site of a valid space, and its length; it leaves with e if there is none.
func (x site) instruction(s api.Space, e api.Errno) (api.Insn, int) {
	b, _ := mem.Fetch(s, x.at, longestInsn)
	found, n, err := insn.Decode(b)
	demand(err == api.OK, e)
	return found, n
}

// demandCode leaves with e unless an instruction stands in the clean space at each breakpoint.
func (w *work) demandCode(e api.Errno) {
	for _, b := range w.list {
		b.instruction(w.clean, e)
	}
}

// search returns the index of the first element of a list that is not ahead of what is sought, or the length of the list: the elements that are ahead of it stand first.
func search[E any](list []E, ahead func(E) bool) int {
	return sort.Search(len(list), func(i int) bool { return !ahead(list[i]) })
}

// place returns the index of the breakpoint at a site, or the one that it would have, and whether there is one.
func (w *work) place(x site) (int, bool) {
	i := search(w.list, func(b breakpoint) bool { return b.at < x.at })
	return i, i < len(w.list) && w.list[i].site == x
}

// find returns the index of the breakpoint at a site; it leaves with ErrNone if there is none.
func (w *work) find(x site) int {
	i, is := w.place(x)
	demand(is, api.ErrNone)
	return i
}

// install puts a breakpoint at a site, or makes it wanted once more.
func (w *work) install(x site) {
	i, is := w.place(x)
	if is {
		demand(w.list[i].wanted < mostWanted, api.ErrLong)
		w.list[i].wanted++
		return
	}
	// Between breakpoints the clean space has the same instructions as the patched one.
	x.instruction(w.clean, api.ErrCode)
	demand(len(w.list) < api.MaxPatches, api.ErrLong)
	w.list = slices.Insert(w.list, i, breakpoint{x, 1})
}

// remove makes a breakpoint wanted once less; nobody's breakpoint is taken away.
func (w *work) remove(x site) {
	i := w.find(x)
	w.list[i].wanted--
	if w.list[i].wanted == 0 {
		w.list = slices.Delete(w.list, i, i+1)
	}
}

// apply stores what an effect stores. No breakpoint stands where something can be stored, so that this is told by the clean space.
func (w *work) apply(e api.Effect) {
	s, err := cpu.Apply(w.clean, e)
	demand(err == api.OK, err)
	w.clean = s
}

// rebase puts the breakpoints into another space.
func (w *work) rebase(s api.Space) {
	e := mem.Check(s)
	demand(e == api.OK, e)
	w.clean = copied(s)
	w.demandCode(api.ErrCode)
}
