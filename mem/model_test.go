package mem_test

import (
	"math"
	"math/big"
	"math/rand"
	"slices"
	"testing"

	"tapline/api"
	"tapline/mem"
)

// The model says what the chapter says of one address at a time, with maps and integers that have no bounds; it shares nothing with the package.

const (
	none = 0
	read = api.PmRead
	both = api.PmRead + api.PmWrite
	exec = api.PmExec
)

var (
	i1 = api.Int{Size: 1, Signed: true}
	i2 = api.Int{Size: 2, Signed: true}
	i4 = api.Int{Size: 4, Signed: true}
	i8 = api.Int{Size: 8, Signed: true}
	u1 = api.Int{Size: 1}
	u2 = api.Int{Size: 2}
	u4 = api.Int{Size: 4}
	u8 = api.Int{Size: 8}
)

var allTypes = []api.Int{i1, u1, i2, u2, i4, u4, i8, u8}

// pagePerms are the permissions that a page can have, needs those that an access can need.
var (
	pagePerms = []int{none, read, both, exec}
	needs     = []int{api.PmRead, api.PmWrite, api.PmExec}
)

// permitted has the needs that a page's permissions meet.
var permitted = map[int][]int{none: nil, read: {api.PmRead}, both: {api.PmRead, api.PmWrite}, exec: {api.PmExec}}

// kinds has the fault of a need that is not met.
var kinds = map[int]int{api.PmRead: api.FtRead, api.PmWrite: api.FtWrite, api.PmExec: api.FtExec}

// cell is a byte of a space, and the permissions of its page.
type cell struct {
	perm  int
	value byte
}

// cellsOf returns the bytes of a space by their addresses.
func cellsOf(s api.Space) map[int64]cell {
	out := map[int64]cell{}
	for p, perm := range s.Perm {
		for i := range 64 {
			out[int64(64*p+i)] = cell{perm, s.Bytes[64*p+i]}
		}
	}
	return out
}

// modelFault returns the fault of an access that needs a permission, or (with need 0) only addresses of the space.
func modelFault(cells map[int64]cell, at int64, n, need int) api.Fault {
	for k := range n {
		c, ok := cells[at+int64(k)]
		if !ok {
			return api.Fault{Kind: api.FtMap, At: at + int64(k)}
		}
		if need != 0 && !slices.Contains(permitted[c.perm], need) {
			return api.Fault{Kind: kinds[need], At: at + int64(k)}
		}
	}
	return api.Fault{}
}

// modelRead returns the bytes of an access, or its fault.
func modelRead(cells map[int64]cell, at int64, n, need int) ([]byte, api.Fault) {
	if f := modelFault(cells, at, n, need); f.Kind != api.FtNone {
		return nil, f
	}
	var out []byte
	for k := range n {
		out = append(out, cells[at+int64(k)].value)
	}
	return out, api.Fault{}
}

// modelWrite returns the space with other bytes from an address on.
func modelWrite(s api.Space, at int64, b []byte) api.Space {
	out := api.Space{Perm: slices.Clone(s.Perm), Bytes: slices.Clone(s.Bytes)}
	for k, x := range b {
		out.Bytes[at+int64(k)] = x
	}
	return out
}

// modelFetch returns the bytes that can be executed one by one.
func modelFetch(cells map[int64]cell, at int64, n int) []byte {
	var out []byte
	for k := range n {
		c, ok := cells[at+int64(k)]
		if !ok || c.perm != exec {
			break
		}
		out = append(out, c.value)
	}
	return out
}

// modelString reads one byte after the other.
func modelString(cells map[int64]cell, at int64, most int) (string, api.Fault) {
	var out []byte
	for k := range most {
		b, f := modelRead(cells, at+int64(k), 1, api.PmRead)
		if f.Kind != api.FtNone {
			return "", f
		}
		if b[0] == 0 {
			break
		}
		out = append(out, b[0])
	}
	return string(out), api.Fault{}
}

// modelNumber returns the value of a type with these bytes.
func modelNumber(t api.Int, b []byte) int64 {
	n := new(big.Int)
	for i, x := range b {
		n.Add(n, new(big.Int).Lsh(big.NewInt(int64(x)), uint(8*i)))
	}
	if b[len(b)-1] >= 128 && (t.Signed || t.Size == 8) {
		n.Sub(n, new(big.Int).Lsh(big.NewInt(1), uint(8*t.Size)))
	}
	return n.Int64()
}

// modelBytes returns the lowest Size bytes of v.
func modelBytes(t api.Int, v int64) []byte {
	n := new(big.Int).Mod(big.NewInt(v), new(big.Int).Lsh(big.NewInt(1), uint(8*t.Size)))
	var out []byte
	for range t.Size {
		digit := new(big.Int)
		n.DivMod(n, big.NewInt(256), digit)
		out = append(out, byte(digit.Int64()))
	}
	return out
}

// sample is the space of the chapter's examples.
func sample() api.Space {
	return api.Space{Perm: []int{both, read, exec}, Bytes: make([]byte, 192)}
}

// maker makes random arguments.
type maker struct{ *rand.Rand }

func newMaker() maker { return maker{rand.New(rand.NewSource(3))} }

// with returns a space with these permissions, in which one byte of eight is 0.
func (m maker) with(perm ...int) api.Space {
	s := api.Space{Perm: perm, Bytes: make([]byte, 64*len(perm))}
	for i := range s.Bytes {
		if m.Intn(8) > 0 {
			s.Bytes[i] = byte(m.Intn(256))
		}
	}
	return s
}

// space returns a space of up to 32 pages, mostly of a few.
func (m maker) space() api.Space {
	pages := m.Intn(5)
	if m.Intn(10) == 0 {
		pages = m.Intn(33)
	}
	perm := make([]int, pages)
	for i := range perm {
		perm[i] = pagePerms[m.Intn(4)]
	}
	return m.with(perm...)
}

// address returns an address in or near a space, or one at the end of an int64.
func (m maker) address(s api.Space) int64 {
	switch m.Intn(20) {
	case 0:
		return []int64{math.MinInt64, math.MinInt64 + 1, math.MaxInt64 - 8, math.MaxInt64 - 1, math.MaxInt64, 1 << 40, -1 << 40, 1 << 32}[m.Intn(8)]
	case 1, 2, 3:
		return int64(64*m.Intn(len(s.Perm)+2) - 4 + m.Intn(9))
	}
	return int64(m.Intn(len(s.Bytes)+20) - 10)
}

func (m maker) value() int64 {
	v := int64(m.Uint64())
	if m.Intn(2) == 0 {
		v >>= m.Intn(64)
	}
	return v
}

func (m maker) kind() api.Int { return allTypes[m.Intn(len(allTypes))] }

func (m maker) bytes(n int) []byte {
	b := make([]byte, n)
	m.Read(b)
	return b
}

// threePages returns the spaces of three pages with all permissions.
func threePages(m maker) []api.Space {
	var out []api.Space
	for _, a := range pagePerms {
		for _, b := range pagePerms {
			for _, c := range pagePerms {
				out = append(out, m.with(a, b, c))
			}
		}
	}
	return out
}

// edges are addresses at the edges of three pages, and around them.
func edges() []int64 {
	out := []int64{math.MinInt64, math.MinInt64 + 64, -1 << 32, -64, 1 << 32, 1<<32 + 64, math.MaxInt64 - 2047, math.MaxInt64 - 64, math.MaxInt64 - 7, math.MaxInt64 - 1, math.MaxInt64}
	for edge := int64(0); edge <= 192; edge += 64 {
		for d := int64(-9); d <= 9; d++ {
			out = append(out, edge+d)
		}
	}
	return append(out, 30, 96, 160, 256, 500, 2047, 2048, 2049)
}

// isZero reports whether a space is the zero value.
func isZero(s api.Space) bool { return len(s.Perm) == 0 && len(s.Bytes) == 0 }

// equal compares two spaces without the package.
func equal(a, b api.Space) bool {
	return slices.Equal(a.Perm, b.Perm) && slices.Equal(a.Bytes, b.Bytes)
}

func load(t *testing.T, s api.Space, at int64, x api.Int) (int64, api.Fault) {
	t.Helper()
	v, f, e := mem.Load(s, at, x)
	if e != api.OK {
		t.Fatalf("Load(%v, %d, %v): %d", s.Perm, at, x, e)
	}
	return v, f
}

func store(t *testing.T, s api.Space, at int64, x api.Int, v int64) (api.Space, api.Fault) {
	t.Helper()
	out, f, e := mem.Store(s, at, x, v)
	if e != api.OK {
		t.Fatalf("Store(%v, %d, %v, %d): %d", s.Perm, at, x, v, e)
	}
	return out, f
}

func access(t *testing.T, s api.Space, at int64, n, need int) api.Fault {
	t.Helper()
	f, e := mem.Access(s, at, n, need)
	if e != api.OK {
		t.Fatalf("Access(%v, %d, %d, %d): %d", s.Perm, at, n, need, e)
	}
	return f
}

func peek(t *testing.T, s api.Space, at int64, n int) ([]byte, api.Fault) {
	t.Helper()
	b, f, e := mem.Peek(s, at, n)
	if e != api.OK {
		t.Fatalf("Peek(%v, %d, %d): %d", s.Perm, at, n, e)
	}
	return b, f
}

func poke(t *testing.T, s api.Space, at int64, b []byte) (api.Space, api.Fault) {
	t.Helper()
	out, f, e := mem.Poke(s, at, b)
	if e != api.OK {
		t.Fatalf("Poke(%v, %d, %v): %d", s.Perm, at, b, e)
	}
	return out, f
}

func fetch(t *testing.T, s api.Space, at int64, n int) []byte {
	t.Helper()
	b, e := mem.Fetch(s, at, n)
	if e != api.OK {
		t.Fatalf("Fetch(%v, %d, %d): %d", s.Perm, at, n, e)
	}
	return b
}

func diff(t *testing.T, a, b api.Space) []api.Change {
	t.Helper()
	l, e := mem.Diff(a, b)
	if e != api.OK {
		t.Fatalf("Diff(%v, %v): %d", a, b, e)
	}
	return l
}
