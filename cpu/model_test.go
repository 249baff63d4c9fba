package cpu_test

import (
	"bytes"
	"encoding/binary"
	"math"
	"math/big"
	"math/rand"
	"slices"
	"strings"
	"testing"

	"tapline/api"
	"tapline/cpu"
	"tapline/insn"
)

// The model says what the chapter says, with integers that have no bounds and a byte of memory at a time; it shares nothing with the package.

const (
	none = 0
	read = api.PmRead
	both = api.PmRead + api.PmWrite
	exec = api.PmExec
)

var pagePerms = []int{none, read, both, exec}

// row has an operation's length, its operands (the registers A and B, a number N), the range of the number, and the parts of memory that it reads and writes: at R[B] + Imm (B), at R[7] (S) or at R[7] - 8 (P), one byte or eight.
type row struct {
	op            int
	length        int
	operands      string
	least, most   int64
	reads, writes string
}

var rows = []row{
	{api.InNop, 1, "", 0, 0, "", ""},
	{api.InMove, 2, "AB", 0, 0, "", ""},
	{api.InSet, 12, "AN", math.MinInt64, math.MaxInt64, "", ""},
	{api.InLit, 3, "AN", -64, 63, "", ""},
	{api.InAdd, 2, "AB", 0, 0, "", ""},
	{api.InSub, 2, "AB", 0, 0, "", ""},
	{api.InMul, 2, "AB", 0, 0, "", ""},
	{api.InDiv, 2, "AB", 0, 0, "", ""},
	{api.InMod, 2, "AB", 0, 0, "", ""},
	{api.InAnd, 2, "AB", 0, 0, "", ""},
	{api.InOr, 2, "AB", 0, 0, "", ""},
	{api.InXor, 2, "AB", 0, 0, "", ""},
	{api.InShl, 2, "AB", 0, 0, "", ""},
	{api.InShr, 2, "AB", 0, 0, "", ""},
	{api.InSar, 2, "AB", 0, 0, "", ""},
	{api.InInc, 3, "AN", -64, 63, "", ""},
	{api.InLoad1, 3, "ABN", -64, 63, "B1", ""},
	{api.InLoad8, 3, "ABN", -64, 63, "B8", ""},
	{api.InStore1, 3, "ABN", -64, 63, "", "B1"},
	{api.InStore8, 3, "ABN", -64, 63, "", "B8"},
	{api.InBeq, 3, "ABN", -64, 63, "", ""},
	{api.InBne, 3, "ABN", -64, 63, "", ""},
	{api.InBlt, 3, "ABN", -64, 63, "", ""},
	{api.InBge, 3, "ABN", -64, 63, "", ""},
	{api.InJump, 3, "N", -8192, 8191, "", ""},
	{api.InJumpR, 2, "A", 0, 0, "", ""},
	{api.InCall, 3, "N", -8192, 8191, "", "P8"},
	{api.InCallR, 2, "A", 0, 0, "", "P8"},
	{api.InRet, 1, "", 0, 0, "S8", ""},
	{api.InPush, 2, "A", 0, 0, "", "P8"},
	{api.InPop, 2, "A", 0, 0, "S8", ""},
	{api.InLea, 4, "AN", -8192, 8191, "", ""},
	{api.InSys, 2, "N", 0, 127, "", ""},
	{api.InSwap, 2, "AB", 0, 0, "B8", "B8"},
	{api.InBreak, 1, "", 0, 0, "", ""},
}

func rowOf(op int) row {
	for _, r := range rows {
		if r.op == op {
			return r
		}
	}
	return row{}
}

// wrapped returns the int64 that is n modulo 2 to the power of 64.
func wrapped(n *big.Int) int64 {
	return int64(new(big.Int).Mod(n, new(big.Int).Lsh(big.NewInt(1), 64)).Uint64())
}

// sum adds, and wraps around once, at the end.
func sum(l ...int64) int64 {
	n := new(big.Int)
	for _, x := range l {
		n.Add(n, big.NewInt(x))
	}
	return wrapped(n)
}

// modelAlu returns the result of an operation from InAdd to InSar, and false for a division by 0.
func modelAlu(op int, a, b int64) (int64, bool) {
	x, y, out := big.NewInt(a), big.NewInt(b), new(big.Int)
	by := uint(new(big.Int).Mod(y, big.NewInt(64)).Uint64())
	if (op == api.InDiv || op == api.InMod) && b == 0 {
		return 0, false
	}
	switch op {
	case api.InAdd:
		out.Add(x, y)
	case api.InSub:
		out.Sub(x, y)
	case api.InMul:
		out.Mul(x, y)
	case api.InDiv:
		out.Quo(x, y)
	case api.InMod:
		out.Rem(x, y)
	case api.InAnd:
		out.And(x, y)
	case api.InOr:
		out.Or(x, y)
	case api.InXor:
		out.Xor(x, y)
	case api.InShl:
		out.Lsh(x, by)
	case api.InShr:
		out.Rsh(new(big.Int).SetUint64(uint64(a)), by)
	case api.InSar:
		out.Rsh(x, by)
	}
	return wrapped(out), true
}

// modelTaken reports whether an instruction jumps.
func modelTaken(x api.Insn, r api.Regs) bool {
	order := big.NewInt(r.R[x.A]).Cmp(big.NewInt(r.R[x.B]))
	switch x.Op {
	case api.InBeq:
		return order == 0
	case api.InBne:
		return order != 0
	case api.InBlt:
		return order < 0
	case api.InBge:
		return order >= 0
	}
	return slices.Contains([]int{api.InJump, api.InJumpR, api.InCall, api.InCallR, api.InRet}, x.Op)
}

func modelFootprint(x api.Insn, r api.Regs) []api.Access {
	var out []api.Access
	row := rowOf(x.Op)
	for i, part := range []string{row.reads, row.writes} {
		if part == "" {
			continue
		}
		at := map[byte]int64{'B': sum(r.R[x.B], x.Imm), 'S': r.R[7], 'P': sum(r.R[7], -8)}[part[0]]
		out = append(out, api.Access{At: at, Size: int(part[1] - '0'), Write: i == 1})
	}
	return out
}

// modelFault returns the fault of an access.
func modelFault(s api.Space, at int64, n, need int) api.Fault {
	kinds := map[int]int{api.PmRead: api.FtRead, api.PmWrite: api.FtWrite, api.PmExec: api.FtExec}
	for k := range n {
		here := sum(at, int64(k))
		if here < 0 || here >= int64(len(s.Bytes)) {
			return api.Fault{Kind: api.FtMap, At: here}
		}
		if s.Perm[here/64]&need == 0 {
			return api.Fault{Kind: kinds[need], At: here}
		}
	}
	return api.Fault{}
}

// number returns the value of bytes, extended with zeros.
func number(b []byte) int64 {
	n := new(big.Int)
	for i, x := range b {
		n.Add(n, new(big.Int).Lsh(big.NewInt(int64(x)), uint(8*i)))
	}
	return wrapped(n)
}

// word returns the 8 bytes of a value.
func word(v int64) []byte { return binary.LittleEndian.AppendUint64(nil, uint64(v)) }

// modelExec returns the effect of a well-formed instruction in a valid space.
func modelExec(x api.Insn, s api.Space, r api.Regs) api.Effect {
	var loaded int64
	var place api.Access
	for _, p := range modelFootprint(x, r) {
		need := api.PmRead
		if p.Write {
			need, place = api.PmWrite, p
		}
		if f := modelFault(s, p.At, p.Size, need); f.Kind != api.FtNone {
			return api.Effect{Regs: r, Trap: api.Trap{Kind: api.TrFault, Fault: f}, Insn: x}
		}
		if !p.Write {
			loaded = number(s.Bytes[p.At : p.At+int64(p.Size)])
		}
	}
	stored := r.R[x.A]
	if x.Op == api.InCall || x.Op == api.InCallR {
		stored = sum(r.Pc, int64(rowOf(x.Op).length))
	}
	out := api.Effect{Regs: r, At: place.At, Insn: x}
	if place.Size > 0 {
		out.Data = word(stored)[:place.Size]
	}
	out.Regs.Pc = modelPc(x, r, loaded)
	out.Trap = modelTrap(x, r)
	if out.Trap.Kind != api.TrNone && out.Trap.Kind != api.TrSys {
		out.Regs.Pc = r.Pc
	} else {
		out.Regs.R = modelRegisters(x, r, loaded)
	}
	return out
}

// modelTrap returns the trap of an instruction whose footprint has no fault.
func modelTrap(x api.Insn, r api.Regs) api.Trap {
	switch x.Op {
	case api.InSys:
		return api.Trap{Kind: api.TrSys, N: int(x.Imm)}
	case api.InBreak:
		return api.Trap{Kind: api.TrBreak}
	case api.InDiv, api.InMod:
		if r.R[x.B] == 0 {
			return api.Trap{Kind: api.TrDivide}
		}
	}
	return api.Trap{}
}

// modelPc returns Pc behind an instruction without a trap (or an InSys) that has read a value.
func modelPc(x api.Insn, r api.Regs, loaded int64) int64 {
	length := int64(rowOf(x.Op).length)
	if !modelTaken(x, r) {
		return sum(r.Pc, length)
	}
	switch x.Op {
	case api.InJumpR, api.InCallR:
		return r.R[x.A]
	case api.InRet:
		return loaded
	}
	return sum(r.Pc, length, x.Imm)
}

// modelRegisters returns the registers but for Pc behind an instruction without a trap that has read a value.
func modelRegisters(x api.Insn, r api.Regs, loaded int64) [8]int64 {
	row, out := rowOf(x.Op), r.R
	if strings.HasPrefix(row.writes, "P") {
		out[7] = sum(r.R[7], -8)
	}
	if strings.HasPrefix(row.reads, "S") {
		out[7] = sum(r.R[7], 8)
	}
	switch x.Op {
	case api.InMove:
		out[x.A] = r.R[x.B]
	case api.InSet, api.InLit:
		out[x.A] = x.Imm
	case api.InInc:
		out[x.A] = sum(r.R[x.A], x.Imm)
	case api.InLea:
		out[x.A] = sum(r.Pc, int64(row.length), x.Imm)
	case api.InLoad1, api.InLoad8, api.InPop, api.InSwap:
		out[x.A] = loaded
	}
	if v, ok := modelAlu(x.Op, r.R[x.A], r.R[x.B]); ok && api.InAdd <= x.Op && x.Op <= api.InSar {
		out[x.A] = v
	}
	return out
}

// modelStep fetches the bytes at Pc one by one.
func modelStep(s api.Space, r api.Regs) api.Effect {
	var b []byte
	for k := range int64(12) {
		f := modelFault(s, sum(r.Pc, k), 1, api.PmExec)
		if f.Kind != api.FtNone {
			break
		}
		b = append(b, s.Bytes[r.Pc+k])
	}
	switch x, _, e := insn.Decode(b); e {
	case api.OK:
		return modelExec(x, s, r)
	case api.ErrShort:
		return api.Effect{Regs: r, Trap: api.Trap{Kind: api.TrFault, Fault: modelFault(s, r.Pc, 13, api.PmExec)}}
	}
	return api.Effect{Regs: r, Trap: api.Trap{Kind: api.TrIllegal}}
}

// modelApply returns the space with the data of an effect that can be applied.
func modelApply(s api.Space, e api.Effect) api.Space {
	out := api.Space{Perm: slices.Clone(s.Perm), Bytes: slices.Clone(s.Bytes)}
	for k, x := range e.Data {
		out.Bytes[e.At+int64(k)] = x
	}
	return out
}

// modelRun executes instructions one after the other.
func modelRun(s api.Space, r api.Regs, n int) (api.Space, api.Effect, int) {
	space, last := modelApply(s, api.Effect{}), api.Effect{Regs: r}
	for done := range n {
		last = modelStep(space, last.Regs)
		if last.Trap.Kind != api.TrNone {
			return space, last, done
		}
		space = modelApply(space, last)
	}
	return space, last, n
}

// equal compares two effects without the package.
func equal(a, b api.Effect) bool {
	return a.Regs.R == b.Regs.R && a.Regs.Pc == b.Regs.Pc && a.At == b.At && bytes.Equal(a.Data, b.Data) && a.Trap == b.Trap && a.Insn == b.Insn
}

func equalSpaces(a, b api.Space) bool {
	return slices.Equal(a.Perm, b.Perm) && bytes.Equal(a.Bytes, b.Bytes)
}

func isZeroSpace(s api.Space) bool { return len(s.Perm) == 0 && len(s.Bytes) == 0 }

// sample returns a space of each kind of page, in which the lowest byte of each address stands there: code (0 to 63), two pages to be read and written (64 to 191), one to be read (192 to 255), one without permissions (256 to 319), and one more to be read and written at the end (320 to 383).
func sample() api.Space {
	s := api.Space{Perm: []int{exec, both, both, read, none, both}, Bytes: make([]byte, 384)}
	for i := range s.Bytes {
		s.Bytes[i] = byte(i)
	}
	return s
}

// codeAt returns a space with bytes at an address.
func codeAt(perm []int, at int, b ...byte) api.Space {
	s := api.Space{Perm: perm, Bytes: make([]byte, 64*len(perm))}
	copy(s.Bytes[at:], b)
	return s
}

// regs returns registers with a Pc; each pair is a register and its value.
func regs(pc int64, pairs ...int64) api.Regs {
	r := api.Regs{Pc: pc}
	for i := 0; i+1 < len(pairs); i += 2 {
		r.R[pairs[i]] = pairs[i+1]
	}
	return r
}

func parse(t *testing.T, line string) api.Insn {
	t.Helper()
	x, e := insn.Parse(line)
	if e != api.OK {
		t.Fatalf("Parse(%q): %d", line, e)
	}
	return x
}

func encode(t *testing.T, x api.Insn) []byte {
	t.Helper()
	b, e := insn.Encode(x)
	if e != api.OK {
		t.Fatalf("Encode(%v): %d", x, e)
	}
	return b
}

func assemble(t *testing.T, text string) []byte {
	t.Helper()
	b, _, line, e := insn.Assemble(text, 0)
	if e != api.OK {
		t.Fatalf("line %d of %q: %d", line, text, e)
	}
	return b
}

func effect(t *testing.T, x api.Insn, s api.Space, r api.Regs) api.Effect {
	t.Helper()
	out, e := cpu.Exec(x, s, r)
	if e != api.OK {
		t.Fatalf("Exec(%v, %v, %v): %d", x, s.Perm, r, e)
	}
	return out
}

func step(t *testing.T, s api.Space, r api.Regs) api.Effect {
	t.Helper()
	out, e := cpu.Step(s, r)
	if e != api.OK {
		t.Fatalf("Step(%v, %v): %d", s.Perm, r, e)
	}
	return out
}

func apply(t *testing.T, s api.Space, x api.Effect) api.Space {
	t.Helper()
	out, e := cpu.Apply(s, x)
	if e != api.OK {
		t.Fatalf("Apply(%v, %v): %d", s.Perm, x, e)
	}
	return out
}

func run(t *testing.T, s api.Space, r api.Regs, n int) (api.Space, api.Effect, int) {
	t.Helper()
	out, x, done, e := cpu.Run(s, r, n)
	if e != api.OK {
		t.Fatalf("Run(%v, %v, %d): %d", s.Perm, r, n, e)
	}
	return out, x, done
}

func footprint(t *testing.T, x api.Insn, r api.Regs) []api.Access {
	t.Helper()
	l, e := cpu.Footprint(x, r)
	if e != api.OK {
		t.Fatalf("Footprint(%v): %d", x, e)
	}
	return l
}

func taken(t *testing.T, x api.Insn, r api.Regs) bool {
	t.Helper()
	is, e := cpu.Taken(x, r)
	if e != api.OK {
		t.Fatalf("Taken(%v): %d", x, e)
	}
	return is
}

func next(t *testing.T, x api.Insn, at int64) int64 {
	t.Helper()
	to, e := cpu.Next(x, at)
	if e != api.OK {
		t.Fatalf("Next(%v, %d): %d", x, at, e)
	}
	return to
}

// maker makes random arguments.
type maker struct{ *rand.Rand }

func newMaker() maker { return maker{rand.New(rand.NewSource(4))} }

// ends are values at the ends of ranges.
var ends = []int64{0, 1, 2, 7, 8, 62, 63, 64, 65, 127, 128, 255, 256, 1 << 31, 1 << 32, 1 << 62, math.MaxInt64 - 8, math.MaxInt64 - 1, math.MaxInt64, -1, -2, -7, -8, -63, -64, -65, -128, -256, -1 << 31, -1 << 32, -1 << 62, math.MinInt64 + 8, math.MinInt64 + 1, math.MinInt64}

func (m maker) value() int64 {
	switch m.Intn(3) {
	case 0:
		return ends[m.Intn(len(ends))]
	case 1:
		return int64(m.Intn(2000) - 1000)
	}
	return int64(m.Uint64()) >> m.Intn(64)
}

// address returns an address mostly in a space, often at the edge of a page.
func (m maker) address(s api.Space) int64 {
	switch m.Intn(6) {
	case 0:
		return m.value()
	case 1, 2, 3:
		return int64(64*m.Intn(len(s.Perm)+1) - 9 + m.Intn(19))
	}
	return int64(m.Intn(len(s.Bytes) + 1))
}

func (m maker) regs(s api.Space) api.Regs {
	var r api.Regs
	for i := range r.R {
		r.R[i] = m.value()
		if m.Intn(2) == 0 {
			r.R[i] = m.address(s)
		}
	}
	if m.Intn(3) == 0 {
		r.R[m.Intn(8)] = r.R[m.Intn(8)]
	}
	r.R[7] = m.address(s)
	r.Pc = m.address(s)
	return r
}

// start returns registers at the beginning of code, most of which have addresses of data behind pages of code.
func (m maker) start(s api.Space, code int) api.Regs {
	r := m.regs(s)
	for i := range r.R {
		if m.Intn(8) > 0 {
			r.R[i] = int64(64*code + m.Intn(len(s.Bytes)-64*code+1))
		}
	}
	r.Pc = 0
	return r
}

// with returns a space of random bytes with these permissions.
func (m maker) with(perm ...int) api.Space {
	s := api.Space{Perm: perm, Bytes: make([]byte, 64*len(perm))}
	m.Read(s.Bytes)
	return s
}

// space returns a space of up to 6 pages, mostly such that can be read and written.
func (m maker) space() api.Space {
	perm := make([]int, m.Intn(7))
	for i := range perm {
		perm[i] = append(pagePerms, both, both, both, both, both)[m.Intn(9)]
	}
	return m.with(perm...)
}

// instruction returns an instruction of a row.
func (m maker) instruction(r row) api.Insn {
	x := api.Insn{Op: r.op}
	if strings.Contains(r.operands, "A") {
		x.A = m.Intn(8)
	}
	if strings.Contains(r.operands, "B") {
		x.B = m.Intn(8)
	}
	switch {
	case r.op == api.InSet:
		x.Imm = m.value()
	case strings.Contains(r.operands, "N"):
		x.Imm = []int64{r.least, r.most, 0, 1, r.least + m.Int63n(r.most-r.least+1), r.least + m.Int63n(r.most-r.least+1)}[m.Intn(6)]
	}
	return x
}

func (m maker) any() api.Insn { return m.instruction(rows[m.Intn(len(rows))]) }

// tame returns an instruction that hardly ever ends a run: it changes none of the registers 4 to 6, by which it finds what it loads and stores.
func (m maker) tame() api.Insn {
	ops := [][]int{{api.InAdd, api.InSub, api.InMul, api.InAnd, api.InOr, api.InXor, api.InShl, api.InShr, api.InSar, api.InMove}, {api.InLoad1, api.InLoad8, api.InStore1, api.InStore8, api.InSwap}, {api.InPush, api.InPop}, {api.InSet, api.InLit, api.InInc, api.InLea}, {api.InBeq, api.InBne, api.InBlt, api.InBge}}[m.Intn(5)]
	x := m.instruction(rowOf(ops[m.Intn(len(ops))]))
	x.A = m.Intn(4)
	switch {
	case api.InLoad1 <= x.Op && x.Op <= api.InStore8:
		x.B, x.Imm = 4+m.Intn(3), int64(m.Intn(9)-4)
	case x.Op == api.InSwap:
		x.B = 4 + m.Intn(3)
	case api.InBeq <= x.Op && x.Op <= api.InBge:
		x.Imm = 0
	}
	return x
}

// code returns a space whose first pages are code that is filled with instructions, most of them tame, and whose others can be read and written.
func (m maker) code(t *testing.T, code, data int) api.Space {
	s := m.with(append(slices.Repeat([]int{exec}, code), slices.Repeat([]int{both}, data)...)...)
	for at := 0; at < 64*code; {
		x := m.tame()
		if m.Intn(6) == 0 {
			x = m.any()
		}
		at += copy(s.Bytes[at:64*code], encode(t, x))
	}
	return s
}

// each calls f with instructions of each row, spaces and registers.
func (m maker) each(times int, f func(x api.Insn, s api.Space, r api.Regs)) {
	for _, row := range rows {
		for range times {
			s := m.space()
			f(m.instruction(row), s, m.regs(s))
		}
	}
}
