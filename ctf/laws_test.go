package ctf_test

import (
	"bytes"
	"fmt"
	"slices"
	"testing"

	"tapline/api"
	"tapline/ctf"
)

// sound expects type data to be well-formed.
func sound(t *testing.T, what string, x api.Types) {
	t.Helper()
	if ctf.Check(x) != api.OK || !modelCheck(x) {
		t.Fatalf("%s returns what is not well-formed: %s", what, show(x))
	}
}

// keeps expects each type of x to be equivalent to the one of y at its new index, but for those at -1.
func keeps(t *testing.T, what string, x api.Types, to []int, y api.Types) {
	t.Helper()
	if len(to) != len(x.Defs) {
		t.Fatalf("%s of %s: %v", what, show(x), to)
	}
	for i, k := range to {
		if k != -1 && !ctf.Equal(x, i, y, k) {
			t.Fatalf("%s: type %d of %s is not type %d of %s", what, i, show(x), k, show(y))
		}
	}
}

// apart expects the texts of type data to differ.
func apart(t *testing.T, what string, x api.Types) {
	t.Helper()
	seen := map[string]bool{}
	for i := range x.Defs {
		text, e := ctf.Text(x, i)
		if e != api.OK || seen[text] {
			t.Fatalf("%s: the text %q occurs twice in %s", what, text, show(x))
		}
		seen[text] = true
	}
}

// P8.2: Decode of Encode is the type data.
func TestBytesOfTypes(t *testing.T) {
	m := newMaker()
	back := func(x api.Types) {
		t.Helper()
		b, e := ctf.Encode(x)
		y, e2 := ctf.Decode(b)
		if e != api.OK || e2 != api.OK || !ctf.Same(x, y) || !equal(x, y) {
			t.Fatalf("Decode of Encode of %s: %s, %d, %d", show(x), show(y), e, e2)
		}
	}
	for range 6000 {
		back(m.types(pick(m, 1, 5, 20, 60)))
	}
	for _, x := range wellFormed() {
		back(x.t)
	}
}

// P8.2: Encode of what Decode returns are the bytes; other bytes are those of other type data.
func TestTypesOfBytes(t *testing.T) {
	m := newMaker()
	counts := map[string]int{}
	for range 60000 {
		b := m.bytesOf(m.types(pick(m, 1, 2, 4)))
		x, e := ctf.Decode(b)
		counts[fmt.Sprint("error ", e)]++
		if e != api.OK {
			continue
		}
		if back, e := ctf.Encode(x); e != api.OK || !bytes.Equal(back, b) {
			t.Fatalf("Encode of Decode of %v: %v, %d", b, back, e)
		}
	}
	enough(t, counts, 1000, "error 0", "error 80", "error 81")
}

// P8.3: what Unique returns is well-formed, has each text once, and equivalent types; Unique of it is the same.
func TestUniqueLaws(t *testing.T) {
	m := newMaker()
	counts := map[string]int{}
	for range 1500 {
		x := m.types(pick(m, 5, 20, 60))
		u, to, e := ctf.Unique(x)
		if e != api.OK {
			t.Fatal(e)
		}
		counts[fmt.Sprint("shorter ", len(u.Defs) < len(x.Defs))]++
		sound(t, "Unique", u)
		apart(t, "Unique", u)
		keeps(t, "Unique", x, to, u)
		again, same, e := ctf.Unique(u)
		if e != api.OK || !equal(again, u) || !slices.Equal(same, upTo(len(u.Defs))) {
			t.Fatalf("Unique of %s: %s", show(u), show(again))
		}
	}
	enough(t, counts, 300, "shorter true", "shorter false")
}

// pair returns two type data, that mostly can be merged.
func (m maker) pair() (api.Types, api.Types) {
	all := m.types(pick(m, 4, 12, 30))
	x, y := m.part(all), m.part(all)
	if m.Intn(4) == 0 {
		y = m.another(y)
	}
	if m.Intn(8) == 0 {
		y = m.types(8)
	}
	return x, y
}

// P8.4: what Merge returns is well-formed, has equivalent types of both, and nothing else; Merge of type data with itself is Unique of it.
func TestMergeLaws(t *testing.T) {
	m := newMaker()
	counts := map[string]int{}
	for range 4000 {
		x, y := m.pair()
		both, a, b, e := ctf.Merge(x, y)
		counts[fmt.Sprint("error ", e)]++
		u, to, _ := ctf.Unique(x)
		same, c, d, e2 := ctf.Merge(x, x)
		if e2 != api.OK || !equal(same, u) || !slices.Equal(c, to) || !slices.Equal(d, to) {
			t.Fatalf("Merge of %s with itself: %s", show(x), show(same))
		}
		if e != api.OK {
			continue
		}
		sound(t, "Merge", both)
		apart(t, "Merge", both)
		keeps(t, "Merge", x, a, both)
		keeps(t, "Merge", y, b, both)
		for i := range both.Defs {
			if !slices.Contains(a, i) && !slices.Contains(b, i) {
				t.Fatalf("Merge of %s and %s: %d of %s is of none", show(x), show(y), i, show(both))
			}
		}
		if len(x.Defs) > 0 && len(y.Defs) > 0 && len(both.Defs) < len(x.Defs)+len(y.Defs) {
			counts["common"]++
		}
	}
	enough(t, counts, 300, "error 0", "error 82", "common")
}

// paths returns the paths of up to so many names from a type, one of which leads nowhere.
func paths(x api.Types, i, most int) [][]string {
	out := [][]string{nil, {"none"}}
	d := x.Defs[modelResolve(x, i)]
	for _, f := range d.Fields {
		for _, p := range [][]string{nil, {"none"}} {
			out = append(out, append([]string{f.Name}, p...))
		}
		if d.Kind == api.DfStruct && most > 1 {
			for _, p := range paths(x, f.Type, most-1) {
				out = append(out, append([]string{f.Name}, p...))
			}
		}
	}
	return out
}

// alike expects two equivalent types to have the same Size and Text, the same offsets and errors of paths, and equivalent members.
func alike(t *testing.T, x api.Types, i int, y api.Types, j int) {
	t.Helper()
	n, _ := ctf.Size(x, i)
	s, _ := ctf.Text(x, i)
	n2, e := ctf.Size(y, j)
	s2, e2 := ctf.Text(y, j)
	if n != n2 || s != s2 || e != api.OK || e2 != api.OK {
		t.Fatalf("%q of %d bytes and %q of %d bytes are equivalent", s, n, s2, n2)
	}
	for _, p := range paths(x, i, 2) {
		a, at, e := ctf.Path(x, i, p)
		b, at2, e2 := ctf.Path(y, j, p)
		if at != at2 || e != e2 || e == api.OK && !ctf.Equal(x, a, y, b) {
			t.Fatalf("the path %v from %d is at %d, error %d, and from %d at %d, error %d: %s %s", p, i, at, e, j, at2, e2, show(x), show(y))
		}
	}
}

// P8.5: Equal is reflexive and symmetric, and equivalent types have equivalent parts.
func TestEqualLaws(t *testing.T) {
	m := newMaker()
	counts := map[string]int{}
	for range 1200 {
		x, y := m.pair()
		if m.Intn(2) == 0 {
			y = m.another(y)
		}
		for i := range x.Defs {
			if !ctf.Equal(x, i, x, i) {
				t.Fatalf("type %d of %s is not equivalent to itself", i, show(x))
			}
			for j := range y.Defs {
				is := ctf.Equal(x, i, y, j)
				if is != ctf.Equal(y, j, x, i) {
					t.Fatalf("type %d and %d of %s and %s: %v", i, j, show(x), show(y), is)
				}
				text, _ := ctf.Text(x, i)
				text2, _ := ctf.Text(y, j)
				counts[fmt.Sprint(is, " ", text == text2)]++
				if is && m.Intn(4) == 0 {
					alike(t, x, i, y, j)
				}
			}
		}
	}
	enough(t, counts, 300, "true true", "false true", "false false")
}

// P8.5: Equal is transitive.
func TestEqualIsTransitive(t *testing.T) {
	m := newMaker()
	counts := map[string]int{}
	for range 4000 {
		all := m.types(pick(m, 3, 8))
		l := []api.Types{m.shuffled(all), m.part(all), m.part(all)}
		for k := range l {
			if m.Intn(3) == 0 {
				l[k] = m.another(l[k])
			}
		}
		m.Shuffle(len(l), func(i, j int) { l[i], l[j] = l[j], l[i] })
		for i := range l[0].Defs {
			for j := range l[1].Defs {
				for k := range l[2].Defs {
					a, b := ctf.Equal(l[0], i, l[1], j), ctf.Equal(l[1], j, l[2], k)
					counts[fmt.Sprint(a, " ", b)]++
					if a && b && !ctf.Equal(l[0], i, l[2], k) {
						t.Fatalf("types %d, %d and %d of %s, %s and %s", i, j, k, show(l[0]), show(l[1]), show(l[2]))
					}
				}
			}
		}
	}
	enough(t, counts, 1000, "true true", "true false", "false true")
}

// P8.6: Merge in both orders has both results or none, with equivalent types at the places of each type.
func TestOrderOfMerging(t *testing.T) {
	m := newMaker()
	counts := map[string]int{}
	for range 4000 {
		x, y := m.pair()
		xy, a, b, e := ctf.Merge(x, y)
		yx, b2, a2, e2 := ctf.Merge(y, x)
		counts[fmt.Sprint("error ", e)]++
		if e != e2 || len(xy.Defs) != len(yx.Defs) {
			t.Fatalf("Merge of %s and %s: %d, and %d", show(x), show(y), e, e2)
		}
		if e != api.OK {
			continue
		}
		for i := range x.Defs {
			if !ctf.Equal(xy, a[i], yx, a2[i]) {
				t.Fatalf("type %d of the first one: %s %s", i, show(xy), show(yx))
			}
		}
		for i := range y.Defs {
			if !ctf.Equal(xy, b[i], yx, b2[i]) {
				t.Fatalf("type %d of the second one: %s %s", i, show(xy), show(yx))
			}
		}
		third, _ := m.pair()
		if m.Intn(2) == 0 {
			third = m.another(m.part(xy))
		}
		_, _, _, e = ctf.Merge(xy, third)
		_, _, _, e2 = ctf.Merge(yx, third)
		counts[fmt.Sprint("third ", e)]++
		if e != e2 {
			t.Fatalf("Merge with a third one: %d, and %d", e, e2)
		}
	}
	enough(t, counts, 300, "error 0", "error 82", "third 0", "third 82")
	// With a third one there are 200 definitions, or more.
	xy, _, _, _ := ctf.Merge(many("a", 60), many("b", 60))
	yx, _, _, _ := ctf.Merge(many("b", 60), many("a", 60))
	for n, want := range map[int]api.Errno{80: api.OK, 81: api.ErrLong} {
		_, _, _, e := ctf.Merge(xy, many("c", n))
		_, _, _, e2 := ctf.Merge(yx, many("c", n))
		if e != want || e2 != want {
			t.Errorf("a third one with %d definitions: %d, %d", n, e, e2)
		}
	}
}

// P8.7: what Trim returns is well-formed, and has equivalent types, each of which is reached from a name; Trim of it changes nothing.
func TestTrimLaws(t *testing.T) {
	m := newMaker()
	counts := map[string]int{}
	for range 3000 {
		x := m.types(pick(m, 5, 20, 60))
		if len(x.Defs) == 0 {
			continue
		}
		names := m.namesOf(x, 4)
		r, to, e := ctf.Trim(x, names)
		if e != api.OK {
			t.Fatal(e)
		}
		counts[fmt.Sprint("fewer ", len(r.Defs) < len(x.Defs), ", some ", len(r.Defs) > 0)]++
		sound(t, "Trim", r)
		keeps(t, "Trim", x, to, r)
		again, same, e := ctf.Trim(r, names)
		if e != api.OK || !equal(again, r) || !slices.Equal(same, upTo(len(r.Defs))) {
			t.Fatalf("Trim of %s with %v: %s", show(r), names, show(again))
		}
		reached := map[int]bool{}
		for _, name := range names {
			i, _ := modelLookup(x, name)
			reached[i] = true
			for k := range behind(x, i, leads) {
				reached[k] = true
			}
		}
		kept := 0
		for i, k := range to {
			if (k != -1) != reached[i] || k != -1 && k != kept {
				t.Fatalf("Trim of %s with %v: %v", show(x), names, to)
			}
			if k != -1 {
				kept++
			}
		}
	}
	enough(t, counts, 300, "fewer true, some true", "fewer false, some true", "fewer true, some false")
}

// P8.8: the members of a structure lie within it and do not overlap.
func TestMembersLieApart(t *testing.T) {
	m := newMaker()
	counts := map[string]int{}
	for range 20000 {
		x := m.broken(m.types(pick(m, 2, 5, 12)))
		if ctf.Check(x) != api.OK {
			continue
		}
		for i, d := range x.Defs {
			if d.Kind != api.DfStruct {
				continue
			}
			size, _ := ctf.Size(x, i)
			owner := make([]int, size)
			for k, f := range d.Fields {
				member, e := ctf.Member(x, i, f.Name)
				n, e2 := ctf.Size(x, member.Type)
				if e != api.OK || e2 != api.OK || member != f || n < 1 || f.At < 0 || f.At+n > size {
					t.Fatalf("member %d of type %d of %s: %v", k, i, show(x), member)
				}
				for b := range n {
					if owner[f.At+b] != 0 {
						t.Fatalf("member %d of type %d of %s overlaps %d", k, i, show(x), owner[f.At+b]-1)
					}
					owner[f.At+b] = k + 1
				}
				counts["members"]++
			}
		}
	}
	enough(t, counts, 10000, "members")
}

// P8.8: Path of a path is Path of its first names, and from there of the rest.
func TestPathsInParts(t *testing.T) {
	m := newMaker()
	counts := map[string]int{}
	one := func(x api.Types, i int, p []string) {
		t.Helper()
		to, at, e := ctf.Path(x, i, p)
		counts[fmt.Sprint(len(p), " names: ", e)]++
		for n := range p {
			mid, at1, e1 := ctf.Path(x, i, p[:n])
			if e1 != api.OK {
				if e != e1 {
					t.Fatalf("the path %v of %d: %d; of its first %d names: %d; %s", p, i, e, n, e1, show(x))
				}
				continue
			}
			end, at2, e2 := ctf.Path(x, mid, p[n:])
			if e2 != e || e == api.OK && (end != to || at1+at2 != at) {
				t.Fatalf("the path %v of %d: %d at %d, error %d; in parts: %d at %d and %d, error %d; %s", p, i, to, at, e, end, at1, at2, e2, show(x))
			}
		}
	}
	for range 1500 {
		x := m.types(pick(m, 5, 20, 40))
		for i := range x.Defs {
			p := m.path(x, i)
			one(x, i, p[:min(16, len(p))])
			one(x, i, append(slices.Clone(p[:min(3, len(p))]), "none"))
		}
	}
	deep := chain(30)
	for i := range deep.Defs {
		for n := range 17 {
			one(deep, i, same("m", n))
		}
	}
	enough(t, counts, 100, "0 names: 0", "1 names: 0", "1 names: 3", "1 names: 5", "2 names: 0", "2 names: 3", "2 names: 5")
	enough(t, counts, 20, "3 names: 0", "3 names: 3", "16 names: 0", "16 names: 5")
}
