package mem_test

import (
	"bytes"
	"slices"
	"strings"
	"testing"

	"tapline/api"
	"tapline/bits"
	"tapline/mem"
)

// stored returns the space behind a store: the same one if it has a fault.
func stored(t *testing.T, s api.Space, at int64, x api.Int, v int64) (api.Space, api.Fault) {
	t.Helper()
	out, f := store(t, s, at, x, v)
	if f.Kind != api.FtNone {
		return s, f
	}
	return out, f
}

// P3.2: a load or Peek of what was stored, and all bytes beside it.
func TestLoadAfterStore(t *testing.T) {
	m := newMaker()
	for _, s := range threePages(m) {
		for _, x := range allTypes {
			for at := int64(-9); at < 200; at++ {
				v := m.value()
				out, f := store(t, s, at, x, v)
				if f.Kind != api.FtNone {
					continue
				}
				want, _ := bits.Wrap(x, v)
				if got, f := load(t, out, at, x); got != want || f != (api.Fault{}) {
					t.Errorf("Load of %v at %d behind Store of %d: %d, %v", x, at, v, got, f)
				}
				b, _ := bits.Bytes(x, v)
				if got, f := peek(t, out, at, x.Size); !bytes.Equal(got, b) || f != (api.Fault{}) {
					t.Errorf("Peek at %d behind Store of %d as %v: %v, %v", at, v, x, got, f)
				}
				end := at + int64(x.Size)
				if !slices.Equal(out.Perm, s.Perm) || !bytes.Equal(out.Bytes[:at], s.Bytes[:at]) || !bytes.Equal(out.Bytes[end:], s.Bytes[end:]) {
					t.Errorf("Store of %v at %d changes more than its bytes: %v", x, at, out)
				}
			}
		}
	}
}

// P3.2: loads that touch a store, or lie apart from it; loads that overlap it see it.
func TestLoadBesideStore(t *testing.T) {
	m := newMaker()
	for range 200 {
		s := m.with(both, both, read)
		at, x := int64(m.Intn(120)), m.kind()
		out, f := store(t, s, at, x, m.value())
		if f.Kind != api.FtNone {
			continue
		}
		for _, y := range allTypes {
			for from := at - 12; from <= at+12; from++ {
				before, f := load(t, s, from, y)
				after, g := load(t, out, from, y)
				apart := from+int64(y.Size) <= at || at+int64(x.Size) <= from
				if f != g || apart && before != after {
					t.Errorf("Load of %v at %d: %d, %v before a store of %v at %d, %d, %v behind it", y, from, before, f, x, at, after, g)
				}
				inside := from >= at && from+int64(y.Size) <= at+int64(x.Size)
				if want := modelNumber(y, out.Bytes[max(from, 0):max(from, 0)+int64(y.Size)]); inside && after != want {
					t.Errorf("Load of %v at %d within a store of %v at %d: %d; want %d", y, from, x, at, after, want)
				}
			}
		}
	}
}

// P3.3: stores that touch or lie apart commute, with the same faults; of stores that overlap, the later one holds.
func TestDisjointStores(t *testing.T) {
	m := newMaker()
	for _, s := range append(threePages(m), m.with(both, both, both), m.with(both, both, both), m.with(both, both)) {
		for range 300 {
			x, y := m.kind(), m.kind()
			p := m.address(s)
			q := p + int64(m.Intn(30)-15)
			v, w := m.value(), m.value()
			first, f1 := stored(t, s, p, x, v)
			ab, g1 := stored(t, first, q, y, w)
			second, g2 := stored(t, s, q, y, w)
			ba, f2 := stored(t, second, p, x, v)
			if f1 != f2 || g1 != g2 {
				t.Errorf("stores at %d and %d: faults %v and %v, in the other order %v and %v", p, q, f1, g1, f2, g2)
			}
			apart := p+int64(x.Size) <= q || q+int64(y.Size) <= p
			if apart && !mem.Same(ab, ba) {
				t.Errorf("stores of %v at %d and of %v at %d do not commute", x, p, y, q)
			}
			if got, f := load(t, ab, q, y); g1.Kind == api.FtNone && (f.Kind != api.FtNone || got != modelNumber(y, modelBytes(y, w))) {
				t.Errorf("the later store of %d at %d: %d, %v", w, q, got, f)
			}
		}
	}
}

// P3.3: touching, overlapping and distant stores, written out.
func TestStoresOfTwoValues(t *testing.T) {
	for _, c := range []struct {
		p, q int64
		want []byte // from 10 on
	}{
		{10, 12, []byte{1, 1, 2, 2, 0, 0}}, {12, 10, []byte{2, 2, 1, 1, 0, 0}}, {10, 14, []byte{1, 1, 0, 0, 2, 2}}, {10, 11, []byte{1, 2, 2, 0, 0, 0}}, {11, 10, []byte{2, 2, 1, 0, 0, 0}}, {10, 10, []byte{2, 2, 0, 0, 0, 0}},
	} {
		s := api.Space{Perm: []int{both}, Bytes: make([]byte, 64)}
		s, f := store(t, s, c.p, u2, 0x101)
		s, g := store(t, s, c.q, u2, 0x202)
		want := modelWrite(api.Space{Perm: []int{both}, Bytes: make([]byte, 64)}, 10, c.want)
		if f != (api.Fault{}) || g != (api.Fault{}) || !equal(s, want) {
			t.Errorf("stores at %d and %d: %v, %v, %v; want %v", c.p, c.q, f, g, s.Bytes, want.Bytes)
		}
	}
}

// firstFault returns the fault of the first byte that has one by itself.
func firstFault(t *testing.T, s api.Space, at int64, n, need int) api.Fault {
	t.Helper()
	for k := range n {
		if f := access(t, s, at+int64(k), 1, need); f.Kind != api.FtNone {
			return f
		}
	}
	return api.Fault{}
}

// P3.4: the fault of an access is that of its first byte that has one.
func TestFaultsOfBytes(t *testing.T) {
	m := newMaker()
	for range 3000 {
		s := m.space()
		at := m.address(s)
		for _, need := range needs {
			n := m.Intn(2049) >> m.Intn(12)
			if f := access(t, s, at, n, need); f != firstFault(t, s, at, n, need) {
				t.Errorf("Access(%v, %d, %d, %d) = %v; of its bytes %v", s.Perm, at, n, need, f, firstFault(t, s, at, n, need))
			}
		}
		x := m.kind()
		if v, f := load(t, s, at, x); f != firstFault(t, s, at, x.Size, api.PmRead) || f.Kind != api.FtNone && v != 0 {
			t.Errorf("Load(%v, %d, %v) = %d, %v; of its bytes %v", s.Perm, at, x, v, f, firstFault(t, s, at, x.Size, api.PmRead))
		}
		if out, f := store(t, s, at, x, 1); f != firstFault(t, s, at, x.Size, api.PmWrite) || f.Kind != api.FtNone && !isZero(out) {
			t.Errorf("Store(%v, %d, %v) = %v, %v; of its bytes %v", s.Perm, at, x, out, f, firstFault(t, s, at, x.Size, api.PmWrite))
		}
	}
}

// halves are the unsigned types with those of half their sizes.
var halves = [][2]api.Int{{u2, u1}, {u4, u2}, {u8, u4}}

// P3.5: a load is the sum of two loads of half the size.
func TestLoadOfHalves(t *testing.T) {
	for _, s := range threePages(newMaker()) {
		for _, pair := range halves {
			whole, half := pair[0], pair[1]
			for at := int64(-9); at < 200; at++ {
				v, f := load(t, s, at, whole)
				low, g := load(t, s, at, half)
				high, h := load(t, s, at+int64(half.Size), half)
				want, fault := low+high<<(8*half.Size), g
				if g.Kind == api.FtNone {
					fault = h
				}
				if fault.Kind != api.FtNone {
					want = 0
				}
				if v != want || f != fault {
					t.Errorf("Load of %v at %d = %d, %v; of its halves %d, %v", whole, at, v, f, want, fault)
				}
			}
		}
	}
}

// P3.5: a store is two stores of half the size.
func TestStoreOfHalves(t *testing.T) {
	m := newMaker()
	for _, s := range threePages(m) {
		for _, pair := range halves {
			whole, half := pair[0], pair[1]
			for at := int64(-9); at < 200; at++ {
				v := m.value()
				out, f := store(t, s, at, whole, v)
				first, fault := stored(t, s, at, half, v)
				want, h := stored(t, first, at+int64(half.Size), half, v>>(8*half.Size))
				if fault.Kind == api.FtNone {
					fault = h
				}
				if f != fault || f.Kind == api.FtNone && !mem.Same(out, want) {
					t.Errorf("Store of %v at %d: %v, %v; of its halves %v, %v", whole, at, out.Bytes, f, want.Bytes, fault)
				}
			}
		}
	}
}

// P3.6: what Fetch returns are the bytes that can be executed one by one, as Peek returns them.
func TestFetchOfBytes(t *testing.T) {
	m := newMaker()
	for range 1500 {
		s := m.space()
		for i := range s.Perm {
			if m.Intn(2) == 0 {
				s.Perm[i] = exec
			}
		}
		at, n := m.address(s), m.Intn(2049)>>m.Intn(12)
		var want []byte
		for k := 0; k < n && access(t, s, at+int64(k), 1, api.PmExec).Kind == api.FtNone; k++ {
			b, f := peek(t, s, at+int64(k), 1)
			if f.Kind != api.FtNone {
				t.Errorf("Peek(%v, %d): %v", s.Perm, at+int64(k), f)
			}
			want = append(want, b...)
		}
		if b := fetch(t, s, at, n); !bytes.Equal(b, want) {
			t.Errorf("Fetch(%v, %d, %d) = %v; want %v", s.Perm, at, n, b, want)
		}
	}
}

// P3.6: code pages stay as they are, whatever is protected, stored and sealed.
func TestCodeStays(t *testing.T) {
	m := newMaker()
	for range 200 {
		s := m.with(pagePerms[m.Intn(4)], pagePerms[m.Intn(4)], both, pagePerms[m.Intn(4)], exec)
		for range 60 {
			next, e := s, api.OK
			page := m.Intn(7) - 1
			switch m.Intn(8) {
			case 0, 1:
				next, e = mem.Protect(s, page, m.Intn(6))
			case 2:
				if m.Intn(4) == 0 {
					next, e = mem.Seal(s, page)
				}
			default:
				next, _ = stored(t, s, m.address(s), m.kind(), m.value())
			}
			if e != api.OK {
				continue
			}
			for p, perm := range s.Perm {
				if perm == exec && (next.Perm[p] != exec || !bytes.Equal(next.Bytes[64*p:64*p+64], s.Bytes[64*p:64*p+64])) {
					t.Errorf("code page %d of %v changes: %v", p, s.Perm, next)
				}
			}
			s = next
		}
	}
}

// P3.7: Poke of all that Diff tells leads from one space to the other.
func TestPokeOfDiff(t *testing.T) {
	m := newMaker()
	for range 300 {
		a := m.space()
		b := modelWrite(a, 0, nil)
		for range m.Intn(20) {
			if len(b.Bytes) > 0 {
				b.Bytes[m.Intn(len(b.Bytes))] = byte(m.Intn(256))
			}
		}
		if m.Intn(4) == 0 {
			b = m.with(b.Perm...)
		}
		changes, back := diff(t, a, b), diff(t, b, a)
		got, last := a, int64(-1)
		for i, c := range changes {
			if c.At <= last || c.Old == c.New {
				t.Errorf("Diff: change %d, %v, behind one at %d", i, c, last)
			}
			last = c.At
			if i >= len(back) || back[i] != (api.Change{At: c.At, Old: c.New, New: c.Old}) {
				t.Errorf("Diff in the other direction: change %d differs from %v", i, c)
			}
			next, f := poke(t, got, c.At, []byte{c.New})
			if f != (api.Fault{}) {
				t.Errorf("Poke at %d: %v", c.At, f)
			}
			got = next
		}
		if !mem.Same(got, b) || len(back) != len(changes) {
			t.Errorf("Poke of all that Diff tells: %v; want %v", got, b)
		}
		if l := diff(t, a, a); len(l) != 0 {
			t.Errorf("Diff of a space and itself: %v", l)
		}
	}
}

// P3.8: strings have no byte 0, and go on with a greater limit.
func TestStringsOfGreaterLimits(t *testing.T) {
	m := newMaker()
	for range 500 {
		s := m.space()
		if m.Intn(3) == 0 {
			for i := range s.Bytes {
				if m.Intn(10) > 0 {
					s.Bytes[i] |= 1
				}
			}
		}
		at := m.address(s)
		last := ""
		for most := range api.MaxString + 1 {
			text, f, e := mem.String(s, at, most)
			if e != api.OK {
				t.Fatalf("String(%v, %d, %d): %d", s.Perm, at, most, e)
			}
			if f.Kind != api.FtNone {
				break
			}
			if strings.Contains(text, "\x00") || !strings.HasPrefix(text, last) || len(text) > most {
				t.Errorf("String(%v, %d, %d) = %q, behind %q", s.Perm, at, most, text, last)
			}
			last = text
		}
	}
}
