package patch_test

import (
	"math"
	"math/rand"
	"slices"

	"tapline/api"
	"tapline/insn"
)

// maker makes patched spaces and arguments from seeded numbers.
type maker struct {
	*rand.Rand
}

func newMaker() maker {
	return maker{rand.New(rand.NewSource(7))}
}

// pick returns one of some values.
func pick[T any](m maker, values ...T) T {
	return values[m.Intn(len(values))]
}

// extreme are numbers that are out of range wherever they stand.
var extreme = []int64{math.MinInt64, math.MaxInt64, math.MaxInt64 - 2, math.MinInt64 + 3, -1, 1 << 32, -1 << 32, math.MaxInt32, math.MinInt32, 1<<32 + 1, 1<<63 - 16}

// ops are all operations.
func ops() []int {
	var out []int
	for op := api.InNop; op <= api.InSwap; op++ {
		out = append(out, op)
	}
	return append(out, api.InBreak)
}

// formed returns a well-formed instruction of an operation, in half of the cases with a small operand.
func (m maker) formed(op int) api.Insn {
	wide := pick(m, 4, 4, 20, 64, 1<<7, 1<<13, 1<<14)
	for {
		x := api.Insn{Op: op, A: m.Intn(8) * m.Intn(2), B: m.Intn(8) * m.Intn(2), Imm: int64(m.Intn(2*wide)-wide) * int64(m.Intn(2))}
		if op == api.InSet && m.Intn(3) == 0 {
			x.Imm = int64(m.Uint64())
		}
		if insn.Check(x) == api.OK {
			return x
		}
		wide = wide/2 + 2
	}
}

// ill returns an instruction that is not well-formed, but for a few.
func (m maker) ill() api.Insn {
	x := m.formed(pick(m, ops()...))
	n := pick(m, extreme...)
	switch m.Intn(4) {
	case 0:
		x.Op = pick(m, -1, 0, 35, 75, 77, 128, int(n))
	case 1:
		x.A = pick(m, -1, 8, 1, int(n))
	case 2:
		x.B = pick(m, -1, 8, 1, int(n))
	case 3:
		x.Imm = pick(m, -65, 64, -8193, 8192, 128, 1, n)
	}
	return x
}

// codeInto fills a part of a space with instructions, the last of which may be cut.
func (m maker) codeInto(b []byte) {
	for len(b) > 0 {
		code, e := insn.Encode(m.formed(pick(m, ops()...)))
		if e != api.OK {
			panic("no instruction")
		}
		if m.Intn(20) == 0 {
			code = []byte{byte(m.Intn(256))}
		}
		b = b[copy(b, code):]
	}
}

// space returns a space of up to 9 pages, seldom of 32; its code begins at its first address.
func (m maker) space() api.Space {
	var s api.Space
	pages := m.Intn(9)
	if m.Intn(40) == 0 {
		pages = 32
	}
	for range pages {
		s.Perm = append(s.Perm, pick(m, api.PmExec, api.PmExec, 3, 3, api.PmRead, 0))
	}
	s.Bytes = make([]byte, 64*len(s.Perm))
	m.Read(s.Bytes)
	for p := 0; p < pages; p++ {
		from := p
		for p < pages && s.Perm[p] == api.PmExec {
			p++
		}
		if from < p {
			m.codeInto(s.Bytes[64*from : 64*p])
		}
	}
	return s
}

// standing returns the addresses of a space at which instructions stand.
func standing(s api.Space) []int64 {
	var out []int64
	for at := range int64(len(s.Bytes)) {
		if _, _, ok := stands(s, at); ok {
			out = append(out, at)
		}
	}
	return out
}

// patched returns a valid patched space, and its clean space.
func (m maker) patched() (api.Patched, api.Space) {
	s := m.space()
	return m.patch(s), s
}

// patch returns a patched space whose clean space is s.
func (m maker) patch(s api.Space) api.Patched {
	p := api.Patched{Space: clone(s)}
	list := standing(s)
	m.Shuffle(len(list), func(i, j int) { list[i], list[j] = list[j], list[i] })
	most := pick(m, 0, 1, 2, m.Intn(65), m.Intn(65), 63, 64)
	list = list[:min(most, len(list))]
	slices.Sort(list)
	for _, at := range list {
		p.L = append(p.L, api.Patch{At: at, Old: s.Bytes[at], N: pick(m, 1, 1, 2, 999, 1000, 1+m.Intn(1000))})
		p.Space.Bytes[at] = 204
	}
	return p
}

// broken returns a patched space with a change, that is mostly not valid.
func (m maker) broken() api.Patched {
	p, _ := m.patched()
	n := pick(m, pick(m, extreme...), int64(m.Intn(600)))
	if m.Intn(3) == 0 || len(p.L) == 0 {
		switch m.Intn(4) {
		case 0:
			p.Space.Bytes = append(p.Space.Bytes, make([]byte, 1+m.Intn(64))...)
		case 1:
			p.Space.Perm = append(p.Space.Perm, m.Intn(8))
		case 2:
			p.Space.Perm = append(p.Space.Perm, make([]int, 30)...)
			p.Space.Bytes = append(p.Space.Bytes, make([]byte, 30*64)...)
		case 3:
			p.L = append(p.L, api.Patch{At: n, N: 1})
		}
		return p
	}
	x := &p.L[m.Intn(len(p.L))]
	switch m.Intn(8) {
	case 0:
		x.At = n
	case 1:
		x.At += pick(m, -1, 1, n)
	case 2:
		x.N = pick(m, 0, -1, 1001, int(n))
	case 3:
		x.Old = byte(m.Intn(256))
	case 4:
		p.Space.Bytes[x.At] = byte(m.Intn(256))
	case 5:
		p.Space.Perm[x.At/64] = pick(m, 0, 1, 2, 3, 5, 8)
	case 6:
		*x = p.L[m.Intn(len(p.L))]
	case 7:
		p.L = append(p.L, p.L[m.Intn(len(p.L))])
	}
	return p
}

// address returns an address that matters in a patched space, or any one.
func (m maker) address(p api.Patched) int64 {
	if n := len(p.L); n > 0 && m.Intn(2) == 0 {
		return p.L[m.Intn(n)].At + pick[int64](m, 0, 0, 0, 0, 0, 1, 2, -1)
	}
	if m.Intn(6) == 0 {
		return pick(m, extreme...)
	}
	return int64(m.Intn(len(p.Space.Bytes)+10)) - 2
}

// word returns a value of a register: an address, a small number, or any number.
func (m maker) word(p api.Patched) int64 {
	switch m.Intn(6) {
	case 0:
		return int64(m.Intn(9)) - 4
	case 1:
		return int64(m.Uint64())
	}
	return m.address(p)
}

// regs returns registers of a thread, and a slot.
func (m maker) regs(p api.Patched) (r api.Regs, slot int64) {
	for i := range r.R {
		r.R[i] = m.word(p)
	}
	r.Pc = m.address(p)
	slot = pick(m, r.Pc+int64(m.Intn(40)-20), r.Pc+int64(m.Intn(200)-100), r.Pc+int64(m.Intn(20000)-10000), m.address(p), pick(m, extreme...))
	// A jump to the byte behind the slot looks like no jump at all.
	if m.Intn(4) == 0 {
		r.R[m.Intn(8)] = slot + int64(m.Intn(4))
	}
	return r, slot
}

// effect returns an effect, in most of the cases one that can be applied if a page can be written.
func (m maker) effect(p api.Patched) api.Effect {
	out := api.Effect{At: m.address(p), Data: make([]byte, pick(m, 1, 8, 8, m.Intn(10)))}
	m.Read(out.Data)
	if page := slices.Index(p.Space.Perm, 3); page >= 0 && m.Intn(2) == 0 {
		out.At = int64(64*page + m.Intn(60))
	}
	if m.Intn(4) == 0 {
		out.At = 0
	}
	if m.Intn(6) == 0 {
		out.Trap.Kind = m.Intn(7)
	}
	out.Regs, _ = m.regs(p)
	return out
}

// rebased returns a space like the clean one of p: another size, other bytes, another permission, or something else.
func (m maker) rebased(p api.Patched) api.Space {
	s, ok := modelClean(p)
	if !ok {
		s = m.space()
	}
	n := len(s.Perm)
	if n == 0 {
		return s
	}
	switch m.Intn(8) {
	case 0:
		s.Perm, s.Bytes = s.Perm[:n-1], s.Bytes[:64*n-64]
	case 1:
		s.Perm, s.Bytes = append(s.Perm, 4), append(s.Bytes, make([]byte, 64)...)
	case 2:
		for range 3 {
			s.Bytes[m.Intn(len(s.Bytes))] = byte(m.Intn(256))
		}
	case 3:
		s.Perm[m.Intn(n)] = pick(m, 0, 1, 2, 3, 4, 5)
	case 4:
		return m.space()
	case 5:
		return clone(p.Space)
	case 6:
		for i := range p.L {
			if at := p.L[i].At; ok {
				s.Bytes[at] = pick(m, s.Bytes[at], 204, 129, 157)
			}
		}
	}
	return s
}

// given returns arguments, in most of the cases with a valid patched space.
func (m maker) given() given {
	g := given{Insn: m.formed(pick(m, ops()...))}
	g.P, _ = m.patched()
	if m.Intn(6) == 0 {
		g.P = m.broken()
	}
	if m.Intn(6) == 0 {
		g.Insn = m.ill()
	}
	g.Q = clone(g.P)
	if m.Intn(2) == 0 {
		g.Q = m.broken()
	}
	g.At = m.address(g.P)
	g.Regs, g.Slot = m.regs(g.P)
	g.Effect, g.Space = m.effect(g.P), m.rebased(g.P)
	return g
}
