package mem_test

import (
	"bytes"
	"math"
	"slices"
	"strings"
	"testing"

	"tapline/api"
	"tapline/mem"
)

// sizes are numbers of bytes up to and beyond those of three pages.
var sizes = []int{0, 1, 2, 3, 7, 8, 9, 63, 64, 65, 127, 128, 129, 191, 192, 193, 2047, 2048}

// badSizes are no numbers of bytes of an access.
var badSizes = []int{math.MinInt, -2048, -1, 2049, 4096, 1 << 32, math.MaxInt}

// P3.1: the chapter's examples.
func TestExamples(t *testing.T) {
	s, f := store(t, sample(), 60, u4, 258)
	if v, g := load(t, s, 60, u4); f != (api.Fault{}) || v != 258 || g != (api.Fault{}) {
		t.Errorf("Store at 60: %v; Load u4: %d, %v", f, v, g)
	}
	if v, g := load(t, s, 60, u1); v != 2 || g != (api.Fault{}) {
		t.Errorf("Load u1 at 60: %d, %v", v, g)
	}
	if s, f := store(t, sample(), 62, u4, 1); !isZero(s) || f != (api.Fault{Kind: api.FtWrite, At: 64}) {
		t.Errorf("Store at 62: %v, %v", s, f)
	}
	for _, x := range []struct {
		at   int64
		t    api.Int
		want api.Fault
	}{
		{62, u4, api.Fault{}}, {126, u4, api.Fault{Kind: api.FtRead, At: 128}}, {190, u4, api.Fault{Kind: api.FtRead, At: 190}}, {500, u1, api.Fault{Kind: api.FtMap, At: 500}}, {-1, u4, api.Fault{Kind: api.FtMap, At: -1}},
	} {
		if v, f := load(t, sample(), x.at, x.t); v != 0 || f != x.want {
			t.Errorf("Load at %d: %d, %v; want %v", x.at, v, f, x.want)
		}
	}
	if a, b := fetch(t, sample(), 126, 4), fetch(t, sample(), 190, 4); len(a) != 0 || !bytes.Equal(b, []byte{0, 0}) {
		t.Errorf("Fetch at 126 and at 190: %v, %v", a, b)
	}
	if b, f := peek(t, sample(), 190, 4); len(b) != 0 || f != (api.Fault{Kind: api.FtMap, At: 192}) {
		t.Errorf("Peek at 190: %v, %v", b, f)
	}
}

// P3.1: Access of all sizes at all edges, with each need at each kind of page.
func TestAccess(t *testing.T) {
	for _, s := range append(threePages(newMaker()), api.Space{}) {
		cells := cellsOf(s)
		for _, at := range edges() {
			for _, n := range sizes {
				for _, need := range needs {
					if f, e := mem.Access(s, at, n, need); f != modelFault(cells, at, n, need) || e != api.OK {
						t.Fatalf("Access(%v, %d, %d, %d) = %v, %d; want %v", s.Perm, at, n, need, f, e, modelFault(cells, at, n, need))
					}
				}
			}
		}
	}
}

// P3.1: faults at the ends of an int64, written out.
func TestAccessThatWrapsAround(t *testing.T) {
	for _, x := range []struct {
		at int64
		n  int
	}{{math.MaxInt64, 1}, {math.MaxInt64, 2}, {math.MaxInt64, 2048}, {math.MaxInt64 - 3, 8}, {math.MaxInt64 - 2046, 2048}, {math.MinInt64, 8}, {-8, 16}, {-1, 2}, {192, 1}, {193, 8}} {
		for _, need := range needs {
			if f := access(t, sample(), x.at, x.n, need); f != (api.Fault{Kind: api.FtMap, At: x.at}) {
				t.Errorf("Access at %d of %d bytes, with %d: %v", x.at, x.n, need, f)
			}
		}
		if f := access(t, sample(), x.at, 0, api.PmRead); f != (api.Fault{}) {
			t.Errorf("Access at %d of no byte: %v", x.at, f)
		}
	}
}

// P3.1: accesses to spaces of 0 and of 32 pages, of 0, 1 and 2048 bytes.
func TestAccessOfAllBytes(t *testing.T) {
	m := newMaker()
	for _, perm := range pagePerms {
		full := m.with(allOf(32, perm)...)
		for _, need := range needs {
			for _, x := range []struct {
				at   int64
				n    int
				want api.Fault
			}{
				{0, 2048, api.Fault{}}, {0, 0, api.Fault{}}, {0, 1, api.Fault{}}, {2047, 1, api.Fault{}}, {2048, 0, api.Fault{}}, {1, 2047, api.Fault{}},
				{1, 2048, api.Fault{Kind: api.FtMap, At: 2048}}, {2047, 2, api.Fault{Kind: api.FtMap, At: 2048}}, {2048, 1, api.Fault{Kind: api.FtMap, At: 2048}}, {-1, 2048, api.Fault{Kind: api.FtMap, At: -1}},
			} {
				if x.n > 0 && x.at >= 0 && x.at < 2048 && !slices.Contains(permitted[perm], need) {
					x.want = api.Fault{Kind: kinds[need], At: x.at}
				}
				if f, e := mem.Access(full, x.at, x.n, need); f != x.want || e != api.OK {
					t.Errorf("Access to 32 pages with %d at %d, of %d bytes, with %d: %v, %d; want %v", perm, x.at, x.n, need, f, e, x.want)
				}
			}
		}
	}
	for _, at := range []int64{-1, 0, 1, 63} {
		if f := access(t, api.Space{}, at, 1, api.PmRead); f != (api.Fault{Kind: api.FtMap, At: at}) {
			t.Errorf("Access at %d of an empty space: %v", at, f)
		}
		if f := access(t, api.Space{}, at, 0, api.PmRead); f != (api.Fault{}) {
			t.Errorf("Access at %d of an empty space, of no byte: %v", at, f)
		}
	}
}

// P3.1: sizes and permissions that are out of range.
func TestAccessOutOfRange(t *testing.T) {
	for _, n := range badSizes {
		for _, need := range append(needs, 0, 9) {
			if f, e := mem.Access(sample(), 0, n, need); f != (api.Fault{}) || e != api.ErrArg {
				t.Errorf("Access of %d bytes with %d: %v, %d", n, need, f, e)
			}
		}
	}
	for _, need := range []int{math.MinInt, -1, 0, both, 5, 6, 7, 8, 257, math.MaxInt} {
		for _, n := range []int{0, 1, 500} {
			if f, e := mem.Access(sample(), 0, n, need); f != (api.Fault{}) || e != api.ErrArg {
				t.Errorf("Access of %d bytes with %d: %v, %d", n, need, f, e)
			}
		}
	}
}

// P3.1: Load of every type, aligned and not, from and beyond pages of all permissions.
func TestLoad(t *testing.T) {
	for _, s := range threePages(newMaker()) {
		cells := cellsOf(s)
		for _, x := range allTypes {
			for _, at := range edges() {
				want := int64(0)
				b, fault := modelRead(cells, at, x.Size, api.PmRead)
				if fault.Kind == api.FtNone {
					want = modelNumber(x, b)
				}
				if v, f, e := mem.Load(s, at, x); v != want || f != fault || e != api.OK {
					t.Errorf("Load(%v, %d, %v) = %d, %v, %d; want %d, %v", s.Perm, at, x, v, f, e, want, fault)
				}
			}
		}
	}
}

// P3.1: the values of all types, written out.
func TestLoadValues(t *testing.T) {
	s := api.Space{Perm: []int{read}, Bytes: make([]byte, 64)}
	copy(s.Bytes[3:], []byte{1, 2, 3, 132, 5, 6, 7, 136, 255})
	for _, x := range []struct {
		at   int64
		t    api.Int
		want int64
	}{
		{3, u1, 1}, {3, i1, 1}, {6, u1, 132}, {6, i1, -124}, {3, u2, 0x201}, {5, u2, 0x8403}, {5, i2, 0x8403 - 1<<16}, {3, u4, 0x84030201}, {3, i4, 0x84030201 - 1<<32}, {7, i4, 0x88070605 - 1<<32},
		{3, i8, -0x77f8f9fa7bfcfdff}, {3, u8, -0x77f8f9fa7bfcfdff}, {4, u8, -0x77f8f9fa7bfcfe}, {10, u2, 0xff88}, {11, i1, -1}, {11, u8, 255}, {63, u1, 0}, {56, i8, 0}, {0, i8, 0x201000000 + 3<<40 + 132<<48 + 5<<56},
	} {
		if v, f := load(t, s, x.at, x.t); v != x.want || f != (api.Fault{}) {
			t.Errorf("Load of %v at %d = %d, %v; want %d", x.t, x.at, v, f, x.want)
		}
	}
}

// P3.1: Store of every type, aligned and not, to and beyond pages of all permissions.
func TestStore(t *testing.T) {
	m := newMaker()
	for _, s := range threePages(m) {
		cells := cellsOf(s)
		for _, x := range allTypes {
			for _, at := range edges() {
				v := m.value()
				fault := modelFault(cells, at, x.Size, api.PmWrite)
				want := api.Space{}
				if fault.Kind == api.FtNone {
					want = modelWrite(s, at, modelBytes(x, v))
				}
				if out, f, e := mem.Store(s, at, x, v); !equal(out, want) || f != fault || e != api.OK {
					t.Errorf("Store(%v, %d, %v, %d) = %v, %v, %d; want %v, %v", s.Perm, at, x, v, out, f, e, want, fault)
				}
			}
		}
	}
}

// P3.1: the bytes of values of all types, wrapped, written out.
func TestStoreValues(t *testing.T) {
	for _, x := range []struct {
		t    api.Int
		v    int64
		want []byte
	}{
		{u1, 255, []byte{255}}, {i1, -1, []byte{255}}, {u1, 258, []byte{2}}, {i1, 200, []byte{200}}, {u2, 258, []byte{2, 1}}, {i2, -2, []byte{254, 255}}, {u2, 1 << 20, []byte{0, 0}}, {u4, 1<<32 + 7, []byte{7, 0, 0, 0}},
		{i4, math.MinInt32, []byte{0, 0, 0, 128}}, {i8, math.MinInt64, []byte{0, 0, 0, 0, 0, 0, 0, 128}}, {u8, -1, []byte{255, 255, 255, 255, 255, 255, 255, 255}}, {i8, 0x0807060504030201, []byte{1, 2, 3, 4, 5, 6, 7, 8}},
	} {
		s := api.Space{Perm: []int{both}, Bytes: slices.Repeat([]byte{77}, 64)}
		if out, f := store(t, s, 5, x.t, x.v); f != (api.Fault{}) || !equal(out, modelWrite(s, 5, x.want)) {
			t.Errorf("Store of %d as %v: %v, %v; want %v", x.v, x.t, out, f, x.want)
		}
	}
}

// P3.1: types that are not valid, wherever the access would be.
func TestBadTypes(t *testing.T) {
	for _, size := range []int{math.MinInt, -8, -1, 0, 3, 5, 6, 7, 9, 16, 64, 256 + 4, math.MaxInt} {
		for _, signed := range []bool{false, true} {
			x := api.Int{Size: size, Signed: signed}
			for _, at := range []int64{0, 128, 500, -1} {
				if v, f, e := mem.Load(sample(), at, x); v != 0 || f != (api.Fault{}) || e != api.ErrInt {
					t.Errorf("Load of %v at %d: %d, %v, %d", x, at, v, f, e)
				}
				if s, f, e := mem.Store(sample(), at, x, 1); !isZero(s) || f != (api.Fault{}) || e != api.ErrInt {
					t.Errorf("Store of %v at %d: %v, %v, %d", x, at, s, f, e)
				}
			}
		}
	}
}

// P3.1: Fetch, which ends at a page that is no code page, at the end of the space, and at its limit.
func TestFetch(t *testing.T) {
	for _, s := range append(threePages(newMaker()), api.Space{}) {
		cells := cellsOf(s)
		for _, at := range edges() {
			for _, n := range sizes {
				if b, e := mem.Fetch(s, at, n); !bytes.Equal(b, modelFetch(cells, at, n)) || e != api.OK {
					t.Fatalf("Fetch(%v, %d, %d) = %v, %d; want %v", s.Perm, at, n, b, e, modelFetch(cells, at, n))
				}
			}
		}
	}
	full := newMaker().with(allOf(32, exec)...)
	if b := fetch(t, full, 0, 2048); !bytes.Equal(b, full.Bytes) {
		t.Errorf("Fetch of all bytes: %v", b)
	}
	for _, n := range badSizes {
		for _, at := range []int64{0, 128, 500} {
			if b, e := mem.Fetch(sample(), at, n); len(b) != 0 || e != api.ErrArg {
				t.Errorf("Fetch of %d bytes at %d: %v, %d", n, at, b, e)
			}
		}
	}
}

// P3.1: Peek, over pages of all permissions.
func TestPeek(t *testing.T) {
	for _, s := range append(threePages(newMaker()), api.Space{}) {
		cells := cellsOf(s)
		for _, at := range edges() {
			for _, n := range sizes {
				want, fault := modelRead(cells, at, n, 0)
				if b, f, e := mem.Peek(s, at, n); !bytes.Equal(b, want) || f != fault || e != api.OK {
					t.Fatalf("Peek(%v, %d, %d) = %v, %v, %d; want %v, %v", s.Perm, at, n, b, f, e, want, fault)
				}
			}
		}
	}
	full := newMaker().with(allOf(32, none)...)
	if b, f := peek(t, full, 0, 2048); !bytes.Equal(b, full.Bytes) || f != (api.Fault{}) {
		t.Errorf("Peek of all bytes: %v, %v", b, f)
	}
	if b, f := peek(t, full, 1, 2048); len(b) != 0 || f != (api.Fault{Kind: api.FtMap, At: 2048}) {
		t.Errorf("Peek of one byte more: %v, %v", b, f)
	}
	for _, n := range badSizes {
		for _, at := range []int64{0, 500} {
			if b, f, e := mem.Peek(sample(), at, n); len(b) != 0 || f != (api.Fault{}) || e != api.ErrArg {
				t.Errorf("Peek of %d bytes at %d: %v, %v, %d", n, at, b, f, e)
			}
		}
	}
}

// P3.1: Poke, over pages of all permissions.
func TestPoke(t *testing.T) {
	m := newMaker()
	for _, s := range append(threePages(m), api.Space{}) {
		cells := cellsOf(s)
		for _, at := range edges() {
			for _, n := range sizes {
				b := m.bytes(n)
				fault := modelFault(cells, at, n, 0)
				want := api.Space{}
				if fault.Kind == api.FtNone {
					want = modelWrite(s, at, b)
				}
				if out, f, e := mem.Poke(s, at, b); !equal(out, want) || f != fault || e != api.OK {
					t.Fatalf("Poke(%v, %d, %d bytes) = %v, %v, %d; want %v, %v", s.Perm, at, n, out, f, e, want, fault)
				}
			}
		}
	}
	full := m.with(allOf(32, none)...)
	b := m.bytes(2048)
	if out, f := poke(t, full, 0, b); !bytes.Equal(out.Bytes, b) || f != (api.Fault{}) {
		t.Errorf("Poke of all bytes: %v, %v", out.Bytes, f)
	}
	if out, f := poke(t, full, 1, b); !isZero(out) || f != (api.Fault{Kind: api.FtMap, At: 2048}) {
		t.Errorf("Poke of one byte more: %v, %v", out, f)
	}
	for _, n := range []int{2049, 4096} {
		for _, at := range []int64{0, 500} {
			if out, f, e := mem.Poke(full, at, make([]byte, n)); !isZero(out) || f != (api.Fault{}) || e != api.ErrLong {
				t.Errorf("Poke of %d bytes at %d: %v, %v, %d", n, at, out, f, e)
			}
		}
	}
}

// P3.1: String at and over all edges, with all limits.
func TestString(t *testing.T) {
	for _, s := range append(threePages(newMaker()), api.Space{}) {
		cells := cellsOf(s)
		for _, at := range edges() {
			for _, most := range []int{0, 1, 2, 3, 8, 9, 20, 63, 64} {
				want, fault := modelString(cells, at, most)
				if text, f, e := mem.String(s, at, most); text != want || f != fault || e != api.OK {
					t.Fatalf("String(%v, %d, %d) = %q, %v, %d; want %q, %v", s.Perm, at, most, text, f, e, want, fault)
				}
			}
		}
	}
}

// P3.1: String with a byte 0 at its beginning, ahead of, at and behind its limit, and ahead of and behind a fault, written out.
func TestStringEnds(t *testing.T) {
	s := api.Space{Perm: []int{both, read, none}, Bytes: []byte(strings.Repeat("x", 192))}
	s.Bytes[10], s.Bytes[100], s.Bytes[130] = 0, 0, 0
	x := strings.Repeat("x", 64)
	for _, c := range []struct {
		at   int64
		most int
		want string
		f    api.Fault
	}{
		{10, 9, "", api.Fault{}}, {10, 0, "", api.Fault{}}, {5, 4, "xxxx", api.Fault{}}, {5, 5, "xxxxx", api.Fault{}}, {5, 6, "xxxxx", api.Fault{}}, {5, 7, "xxxxx", api.Fault{}}, {5, 64, "xxxxx", api.Fault{}},
		{11, 64, x, api.Fault{}}, {36, 64, x, api.Fault{}}, {37, 64, x[:63], api.Fault{}}, {62, 4, "xxxx", api.Fault{}}, {98, 64, "xx", api.Fault{}}, {101, 27, x[:27], api.Fault{}}, {101, 28, "", api.Fault{Kind: api.FtRead, At: 128}},
		{101, 64, "", api.Fault{Kind: api.FtRead, At: 128}}, {130, 1, "", api.Fault{Kind: api.FtRead, At: 130}}, {130, 0, "", api.Fault{}}, {192, 1, "", api.Fault{Kind: api.FtMap, At: 192}}, {-1, 64, "", api.Fault{Kind: api.FtMap, At: -1}},
		{math.MaxInt64, 64, "", api.Fault{Kind: api.FtMap, At: math.MaxInt64}}, {math.MaxInt64, 0, "", api.Fault{}}, {500, 0, "", api.Fault{}},
	} {
		if text, f, e := mem.String(s, c.at, c.most); text != c.want || f != c.f || e != api.OK {
			t.Errorf("String(%d, %d) = %q, %v, %d; want %q, %v", c.at, c.most, text, f, e, c.want, c.f)
		}
	}
	s.Bytes[127] = 0
	if text, f, e := mem.String(s, 101, 64); text != x[:26] || f != (api.Fault{}) || e != api.OK {
		t.Errorf("String that ends ahead of a fault: %q, %v, %d", text, f, e)
	}
	for _, most := range []int{math.MinInt, -1, 65, 2048, math.MaxInt} {
		for _, at := range []int64{5, 128, 500} {
			if text, f, e := mem.String(s, at, most); text != "" || f != (api.Fault{}) || e != api.ErrArg {
				t.Errorf("String(%d, %d) = %q, %v, %d", at, most, text, f, e)
			}
		}
	}
}

// P3.1: all functions against the model, with random arguments.
func TestRandomAccesses(t *testing.T) {
	m := newMaker()
	for range 20000 {
		s := m.space()
		at, n, x, v := m.address(s), m.Intn(m.Intn(m.Intn(2049)+1)+1), m.kind(), m.value()
		cells := cellsOf(s)
		need := needs[m.Intn(3)]
		if f := access(t, s, at, n, need); f != modelFault(cells, at, n, need) {
			t.Fatalf("Access(%v, %d, %d, %d) = %v", s.Perm, at, n, need, f)
		}
		want, fault := modelRead(cells, at, n, 0)
		if b, f := peek(t, s, at, n); !bytes.Equal(b, want) || f != fault {
			t.Fatalf("Peek(%v, %d, %d) = %v, %v", s.Perm, at, n, b, f)
		}
		if b := fetch(t, s, at, n); !bytes.Equal(b, modelFetch(cells, at, n)) {
			t.Fatalf("Fetch(%v, %d, %d) = %v", s.Perm, at, n, b)
		}
		fault = modelFault(cells, at, x.Size, api.PmWrite)
		if out, f := store(t, s, at, x, v); f != fault || fault.Kind == api.FtNone && !equal(out, modelWrite(s, at, modelBytes(x, v))) {
			t.Fatalf("Store(%v, %d, %v, %d) = %v, %v", s.Perm, at, x, v, out, f)
		}
		want, fault = modelRead(cells, at, x.Size, api.PmRead)
		if v, f := load(t, s, at, x); f != fault || fault.Kind == api.FtNone && v != modelNumber(x, want) {
			t.Fatalf("Load(%v, %d, %v) = %d, %v", s.Perm, at, x, v, f)
		}
	}
}

// P3.1: no function changes its arguments, and no result shares memory with them.
func TestResultsAreNewMemory(t *testing.T) {
	m := newMaker()
	s := m.with(both, read, exec)
	kept := modelWrite(s, 0, nil)
	data := []byte{1, 2, 3}
	results := map[string]func() api.Space{
		"Protect": func() api.Space { x, _ := mem.Protect(s, 1, none); return x },
		"again":   func() api.Space { x, _ := mem.Protect(s, 1, read); return x },
		"Seal":    func() api.Space { x, _ := mem.Seal(s, 1); return x },
		"sealed":  func() api.Space { x, _ := mem.Seal(s, 2); return x },
		"Store":   func() api.Space { x, _, _ := mem.Store(s, 9, u8, 5); return x },
		"Poke":    func() api.Space { x, _, _ := mem.Poke(s, 9, data); return x },
		"nothing": func() api.Space { x, _, _ := mem.Poke(s, 9, nil); return x },
		"Peek":    func() api.Space { b, _, _ := mem.Peek(s, 0, 192); return api.Space{Perm: make([]int, 3), Bytes: b} },
	}
	for name, result := range results {
		x := result()
		if len(x.Perm) != 3 || len(x.Bytes) != 192 || !equal(s, kept) || !slices.Equal(data, []byte{1, 2, 3}) {
			t.Fatalf("%s: %v, %v", name, x, s)
		}
		for i := range x.Bytes {
			x.Bytes[i]++
		}
		for i := range x.Perm {
			x.Perm[i]++
		}
		if !equal(s, kept) || !slices.Equal(data, []byte{1, 2, 3}) {
			t.Errorf("the result of %s shares memory with an argument", name)
		}
	}
	b, _, _ := mem.Peek(s, 0, 192)
	code, _ := mem.Fetch(s, 128, 64)
	for i := range s.Bytes {
		s.Bytes[i]++
	}
	if !bytes.Equal(b, kept.Bytes) || !bytes.Equal(code, kept.Bytes[128:]) {
		t.Errorf("the result of Peek or of Fetch shares memory with the space")
	}
}
