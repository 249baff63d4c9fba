package mem_test

import (
	"math"
	"slices"
	"testing"

	"tapline/api"
	"tapline/mem"
)

// allOf returns n times the same permissions.
func allOf(n, perm int) []int { return slices.Repeat([]int{perm}, n) }

// badSpaces are not valid, each for one reason.
func badSpaces() []api.Space {
	out := []api.Space{
		{Bytes: make([]byte, 1)}, {Bytes: make([]byte, 64)}, {Perm: []int{read}}, {Perm: []int{both}, Bytes: make([]byte, 63)}, {Perm: []int{exec}, Bytes: make([]byte, 65)},
		{Perm: []int{none}, Bytes: make([]byte, 128)}, {Perm: []int{read, read}, Bytes: make([]byte, 64)}, {Perm: allOf(32, read), Bytes: make([]byte, 2047)}, {Perm: allOf(32, read), Bytes: make([]byte, 2049)},
		{Perm: allOf(33, read), Bytes: make([]byte, 33*64)}, {Perm: allOf(33, read), Bytes: make([]byte, 2048)}, {Perm: allOf(40, none), Bytes: make([]byte, 40*64)}, {Perm: allOf(3000, exec), Bytes: make([]byte, 3000*64)},
	}
	for _, perm := range []int{math.MinInt, -1, -4, 2, 5, 6, 7, 8, 9, 11, 12, 256, 1 << 32, math.MaxInt} {
		out = append(out, api.Space{Perm: []int{perm}, Bytes: make([]byte, 64)}, api.Space{Perm: []int{read, exec, perm}, Bytes: make([]byte, 192)}, api.Space{Perm: append(allOf(31, both), perm), Bytes: make([]byte, 2048)})
	}
	return out
}

// P3.1: Check, with spaces of 0 to 32 pages of all permissions.
func TestCheck(t *testing.T) {
	m := newMaker()
	good := append(threePages(m), api.Space{}, api.Space{Perm: []int{}, Bytes: []byte{}}, sample())
	for n := range 33 {
		for _, perm := range pagePerms {
			good = append(good, m.with(allOf(n, perm)...))
		}
	}
	for _, s := range good {
		if e := mem.Check(s); e != api.OK {
			t.Errorf("Check(%v) = %d", s.Perm, e)
		}
	}
	for _, s := range badSpaces() {
		if e := mem.Check(s); e != api.ErrSpace {
			t.Errorf("Check(%v with %d bytes) = %d", s.Perm, len(s.Bytes), e)
		}
	}
}

// P3.1: a space that is not valid is the first error, whatever else is wrong, and all other results are zero.
func TestBadSpaces(t *testing.T) {
	for _, s := range badSpaces() {
		for _, n := range []int{0, 1, -1, 3000} {
			if x, e := mem.Protect(s, n, n); !isZero(x) || e != api.ErrSpace {
				t.Errorf("Protect(%v, %d): %v, %d", s.Perm, n, x, e)
			}
			if x, e := mem.Seal(s, n); !isZero(x) || e != api.ErrSpace {
				t.Errorf("Seal(%v, %d): %v, %d", s.Perm, n, x, e)
			}
			if f, e := mem.Access(s, 0, n, n); f != (api.Fault{}) || e != api.ErrSpace {
				t.Errorf("Access(%v, %d): %v, %d", s.Perm, n, f, e)
			}
			if v, f, e := mem.Load(s, 0, api.Int{Size: n}); v != 0 || f != (api.Fault{}) || e != api.ErrSpace {
				t.Errorf("Load(%v, size %d): %d, %v, %d", s.Perm, n, v, f, e)
			}
			if x, f, e := mem.Store(s, 0, api.Int{Size: n}, 5); !isZero(x) || f != (api.Fault{}) || e != api.ErrSpace {
				t.Errorf("Store(%v, size %d): %v, %v, %d", s.Perm, n, x, f, e)
			}
			if b, e := mem.Fetch(s, 0, n); len(b) != 0 || e != api.ErrSpace {
				t.Errorf("Fetch(%v, %d): %v, %d", s.Perm, n, b, e)
			}
			if b, f, e := mem.Peek(s, 0, n); len(b) != 0 || f != (api.Fault{}) || e != api.ErrSpace {
				t.Errorf("Peek(%v, %d): %v, %v, %d", s.Perm, n, b, f, e)
			}
			if x, f, e := mem.Poke(s, 0, make([]byte, max(n, 0))); !isZero(x) || f != (api.Fault{}) || e != api.ErrSpace {
				t.Errorf("Poke(%v, %d): %v, %v, %d", s.Perm, n, x, f, e)
			}
			if b, f, e := mem.String(s, 0, n); b != "" || f != (api.Fault{}) || e != api.ErrSpace {
				t.Errorf("String(%v, %d): %q, %v, %d", s.Perm, n, b, f, e)
			}
		}
		for _, pair := range [][2]api.Space{{s, s}, {s, sample()}, {sample(), s}} {
			if l, e := mem.Diff(pair[0], pair[1]); len(l) != 0 || e != api.ErrSpace {
				t.Errorf("Diff(%v, %v): %v, %d", pair[0].Perm, pair[1].Perm, l, e)
			}
		}
	}
}

// P3.1: New, with all numbers of pages and one more at each end.
func TestNew(t *testing.T) {
	for n := range 33 {
		s, e := mem.New(n)
		if e != api.OK || !equal(s, api.Space{Perm: make([]int, n), Bytes: make([]byte, 64*n)}) {
			t.Errorf("New(%d) = %v, %d", n, s, e)
		}
	}
	for _, n := range []int{math.MinInt, -33, -1, 33, 64, 1 << 32, math.MaxInt} {
		if s, e := mem.New(n); !isZero(s) || e != api.ErrArg {
			t.Errorf("New(%d) = %v, %d", n, s, e)
		}
	}
}

// pageNumbers are those of three pages, and others.
var pageNumbers = []int{math.MinInt, -64, -2, -1, 0, 1, 2, 3, 4, 31, 32, 64, 1 << 32, math.MaxInt}

// P3.1: Protect of each page, of no page, with all permissions and others.
func TestProtect(t *testing.T) {
	for _, s := range threePages(newMaker()) {
		for _, page := range pageNumbers {
			for _, perm := range []int{math.MinInt, -1, none, read, api.PmWrite, both, exec, 5, 6, 7, 8, 257, math.MaxInt} {
				out, e := mem.Protect(s, page, perm)
				if page < 0 || page > 2 || s.Perm[page] == exec || !slices.Contains([]int{none, read, both}, perm) {
					if !isZero(out) || e != api.ErrPage {
						t.Errorf("Protect(%v, %d, %d): %v, %d", s.Perm, page, perm, out.Perm, e)
					}
					continue
				}
				want := modelWrite(s, 0, nil)
				want.Perm[page] = perm
				if !equal(out, want) || e != api.OK {
					t.Errorf("Protect(%v, %d, %d): %v, %d", s.Perm, page, perm, out.Perm, e)
				}
			}
		}
	}
}

// P3.1: Seal of each page (of code pages too), and of no page.
func TestSeal(t *testing.T) {
	for _, s := range threePages(newMaker()) {
		for _, page := range pageNumbers {
			out, e := mem.Seal(s, page)
			if page < 0 || page > 2 {
				if !isZero(out) || e != api.ErrPage {
					t.Errorf("Seal(%v, %d): %v, %d", s.Perm, page, out.Perm, e)
				}
				continue
			}
			want := modelWrite(s, 0, nil)
			want.Perm[page] = exec
			if !equal(out, want) || e != api.OK {
				t.Errorf("Seal(%v, %d): %v, %d", s.Perm, page, out.Perm, e)
			}
		}
	}
}

// P3.1: the pages of an empty space, and of a full one.
func TestPagesOfEmptyAndFullSpaces(t *testing.T) {
	for _, page := range []int{-1, 0, 1} {
		if s, e := mem.Protect(api.Space{}, page, read); !isZero(s) || e != api.ErrPage {
			t.Errorf("Protect of page %d of none: %v, %d", page, s, e)
		}
		if s, e := mem.Seal(api.Space{}, page); !isZero(s) || e != api.ErrPage {
			t.Errorf("Seal of page %d of none: %v, %d", page, s, e)
		}
	}
	full := newMaker().with(allOf(32, read)...)
	if s, e := mem.Protect(full, 31, both); e != api.OK || !slices.Equal(s.Perm, append(allOf(31, read), both)) {
		t.Errorf("Protect of page 31: %v, %d", s.Perm, e)
	}
	if s, e := mem.Seal(full, 31); e != api.OK || !slices.Equal(s.Perm, append(allOf(31, read), exec)) {
		t.Errorf("Seal of page 31: %v, %d", s.Perm, e)
	}
	for _, page := range []int{-1, 32} {
		if s, e := mem.Protect(full, page, both); !isZero(s) || e != api.ErrPage {
			t.Errorf("Protect of page %d of 32: %v, %d", page, s.Perm, e)
		}
		if s, e := mem.Seal(full, page); !isZero(s) || e != api.ErrPage {
			t.Errorf("Seal of page %d of 32: %v, %d", page, s.Perm, e)
		}
	}
}

// P3.1: Same, of any spaces.
func TestSame(t *testing.T) {
	list := append(badSpaces(), api.Space{}, sample(), newMaker().with(both, read, exec), newMaker().with(both, read, none), newMaker().with(both, read), api.Space{Perm: []int{read, both}, Bytes: make([]byte, 128)})
	for i, a := range list {
		for j, b := range list {
			if got := mem.Same(a, modelWrite(b, 0, nil)); got != equal(a, b) || i == j && !got {
				t.Errorf("Same(%v, %v) = %v", a, b, got)
			}
		}
	}
	for _, pair := range [][2]api.Space{{{}, {Perm: []int{}, Bytes: []byte{}}}, {{Perm: []int{}}, {Bytes: []byte{}}}, {{Perm: []int{9}}, {Perm: []int{9}, Bytes: []byte{}}}, {{Bytes: []byte{9}}, {Perm: []int{}, Bytes: []byte{9}}}} {
		if !mem.Same(pair[0], pair[1]) || !mem.Same(pair[1], pair[0]) {
			t.Errorf("nil and empty lists: %v differs from %v", pair[0], pair[1])
		}
	}
	for _, at := range []int64{0, 63, 64, 127, 128, 191} {
		s := sample()
		s.Bytes[at]++
		if mem.Same(s, sample()) || mem.Same(sample(), s) {
			t.Errorf("spaces that differ at %d are the same", at)
		}
	}
	for page := range 3 {
		s := sample()
		s.Perm[page] = none
		if mem.Same(s, sample()) || mem.Same(sample(), s) {
			t.Errorf("spaces that differ in the permissions of page %d are the same", page)
		}
	}
}

// P3.1: Diff, of a space and itself, and of spaces that differ at their first and last bytes.
func TestDiff(t *testing.T) {
	a := newMaker().with(both, read, exec)
	for _, ats := range [][]int64{nil, {0}, {191}, {0, 191}, {0, 1, 62, 63, 64, 100, 127, 128, 190, 191}} {
		b := modelWrite(a, 0, nil)
		var want []api.Change
		for _, at := range ats {
			b.Bytes[at] ^= 129
			want = append(want, api.Change{At: at, Old: a.Bytes[at], New: b.Bytes[at]})
		}
		if l, e := mem.Diff(a, b); !slices.Equal(l, want) || e != api.OK {
			t.Errorf("Diff of spaces that differ at %v: %v, %d", ats, l, e)
		}
	}
	for _, s := range []api.Space{{}, sample(), a, newMaker().with(allOf(32, none)...)} {
		if l, e := mem.Diff(s, s); len(l) != 0 || e != api.OK {
			t.Errorf("Diff of %v and itself: %v, %d", s.Perm, l, e)
		}
	}
	zeros, ones := api.Space{Perm: allOf(32, exec), Bytes: make([]byte, 2048)}, api.Space{Perm: allOf(32, exec), Bytes: slices.Repeat([]byte{1}, 2048)}
	l, e := mem.Diff(zeros, ones)
	if len(l) != 2048 || e != api.OK {
		t.Errorf("Diff of all bytes: %d changes, %d", len(l), e)
	}
	for i, c := range l {
		if c != (api.Change{At: int64(i), New: 1}) {
			t.Errorf("Diff of all bytes, at %d: %v", i, c)
		}
	}
}

// P3.1: Diff refuses spaces with different permissions, and with different numbers of pages.
func TestDiffOfOtherPermissions(t *testing.T) {
	m := newMaker()
	list := append(threePages(m), api.Space{}, m.with(both), m.with(both, read), m.with(both, read, exec, none))
	for i, a := range list {
		for j, b := range list {
			if l, e := mem.Diff(a, b); i != j && (len(l) != 0 || e != api.ErrArg) {
				t.Errorf("Diff(%v, %v): %v, %d", a.Perm, b.Perm, l, e)
			}
		}
	}
}
