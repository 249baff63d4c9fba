package ctf_test

import (
	"fmt"
	"math"
	"math/rand"
	"slices"
	"testing"

	"tapline/api"
)

// maker makes type data and arguments from seeded numbers.
type maker struct {
	*rand.Rand
}

func newMaker() maker { return maker{rand.New(rand.NewSource(8))} }

// pick returns one of some values.
func pick[T any](m maker, values ...T) T { return values[m.Intn(len(values))] }

// extreme are numbers that are out of range wherever they stand.
var extreme = []int{math.MinInt, math.MaxInt, math.MaxInt - 1, -1, 1 << 32, math.MaxInt32 + 1, math.MinInt32 - 1, 513, 1 << 62}

// names are names of definitions and of fields.
var names = []string{"a", "b", "c", "int", "char", "thread_t", "_", "x9", "Z", "proc_t", "x_1", "long_name_of_thirty_one_bytes_1", "A", "d", "e", "f"}

// fieldsOf returns so many fields without types.
func (m maker) fieldsOf(n int) []api.Field {
	var out []api.Field
	for _, k := range m.Perm(n) {
		name := fmt.Sprint("f", k)
		if n <= len(names) {
			name = names[k]
		}
		out = append(out, api.Field{Name: name})
	}
	return out
}

// record returns a structure of members that are of the types of t, in order, with gaps.
func (m maker) record(t api.Types, name string) api.Def {
	d := rec(name, 0)
	gap := pick(m, 1, 1, 4, 40)
	at := 0
	for _, f := range m.fieldsOf(1 + m.Intn(pick(m, 3, 6, 32))) {
		f.Type = m.Intn(len(t.Defs))
		f.At = at + m.Intn(gap)
		size := modelSize(t, f.Type)
		if f.At+size > 512 {
			continue
		}
		d.Fields = append(d.Fields, f)
		at = f.At + size
	}
	d.N = min(at+m.Intn(gap), 512)
	if len(d.Fields) == 0 {
		d.Fields, d.N = []api.Field{field("p", 0, 0)}, 512
	}
	return d
}

// def returns a definition of a kind behind those of t, one of which a pointer may point to, or to a later one.
func (m maker) def(t api.Types, kind int, name string) api.Def {
	i := m.Intn(len(t.Defs))
	switch kind {
	case api.DfPtr:
		return ptr(i)
	case api.DfArray:
		most := 512 / modelSize(t, i)
		return arr(i, pick(m, 1, most, 1+m.Intn(most), min(most, 2)))
	case api.DfStruct:
		return m.record(t, name)
	case api.DfEnum:
		d := enum(name, m.fieldsOf(1+m.Intn(pick(m, 3, 32)))...)
		for k := range d.Fields {
			d.Fields[k].At = pick(m, math.MinInt32, math.MaxInt32, 0, -1, m.Intn(300))
		}
		return d
	case api.DfAlias:
		return alias(name, i)
	}
	return num(name, pick(m, 1, 2, 4, 8), m.Intn(2) == 0)
}

// types returns well-formed type data of at most so many definitions, in any order.
func (m maker) types(most int) api.Types {
	n := m.Intn(most + 1)
	if n == 0 {
		return api.Types{}
	}
	free := m.Perm(max(n, len(names)))
	name := func(i int) string {
		if free[i] < len(names) {
			return names[free[i]]
		}
		return fmt.Sprint("t", free[i])
	}
	t := data(num(name(0), pick(m, 1, 2, 4), true))
	for i := 1; i < n; i++ {
		kind := pick(m, api.DfInt, api.DfPtr, api.DfPtr, api.DfArray, api.DfStruct, api.DfStruct, api.DfEnum, api.DfAlias)
		t.Defs = append(t.Defs, m.def(t, kind, name(i)))
	}
	m.turnPointers(t)
	return m.shuffled(t)
}

// turnPointers lets some pointers point to what stands behind them.
func (m maker) turnPointers(t api.Types) {
	for i := range t.Defs {
		to := m.Intn(len(t.Defs))
		if t.Defs[i].Kind == api.DfPtr && modelNamed(t.Defs[to]) && m.Intn(2) == 0 {
			t.Defs[i].Ref = to
		}
	}
}

// shuffled returns type data in another order.
func (m maker) shuffled(t api.Types) api.Types {
	to := m.Perm(len(t.Defs))
	out := api.Types{Defs: make([]api.Def, len(to))}
	for i, d := range t.Defs {
		out.Defs[to[i]] = mapped(d, func(k int) int { return to[k] })
	}
	return out
}

// namesOf returns some names of type data; one of them may occur twice.
func (m maker) namesOf(t api.Types, most int) []string {
	var out []string
	for range m.Intn(most+1) + m.Intn(2) {
		if d := t.Defs[m.Intn(len(t.Defs))]; modelNamed(d) {
			out = append(out, d.Name)
		}
	}
	return out
}

// part returns a part of type data, in another order, with some pointers and arrays of its own.
func (m maker) part(t api.Types) api.Types {
	if len(t.Defs) == 0 {
		return t
	}
	out, _, e := modelTrim(t, m.namesOf(t, 6))
	if e != api.OK {
		panic("no part")
	}
	for len(out.Defs) > 0 && m.Intn(3) > 0 {
		out.Defs = append(out.Defs, m.def(out, pick(m, api.DfPtr, api.DfPtr, api.DfArray), ""))
	}
	return m.shuffled(out)
}

// another returns well-formed type data that differs from t in one named definition.
func (m maker) another(t api.Types) api.Types {
	for range 100 {
		if len(t.Defs) == 0 {
			return t
		}
		out := clone(t)
		d := &out.Defs[m.Intn(len(out.Defs))]
		if !modelNamed(*d) {
			continue
		}
		switch m.Intn(6) {
		case 0:
			d.N += pick(m, -1, 1, 8)
		case 1:
			d.Int.Signed = !d.Int.Signed
		case 2:
			d.Ref = m.Intn(len(out.Defs))
		case 3:
			d.Name = pick(m, names...)
		default:
			if len(d.Fields) > 0 {
				m.turnField(&d.Fields[m.Intn(len(d.Fields))], len(out.Defs))
			}
		}
		if modelCheck(out) && !equal(out, t) {
			return out
		}
	}
	return t
}

// turnField changes a field: its type is one of n.
func (m maker) turnField(f *api.Field, n int) {
	switch m.Intn(3) {
	case 0:
		f.Name = pick(m, names...)
	case 1:
		f.Type = m.Intn(n)
	case 2:
		f.At += pick(m, -1, 1, 4)
	}
}

// badName returns a name, or a string that is none.
func (m maker) badName() string {
	return pick(m, "", "9", "1a", "a b", "a-", "é", "a\x00", "*", "a *", "a [2]", long(31), long(32), pick(m, names...))
}

// broken returns type data with a change, that is mostly not well-formed.
func (m maker) broken(t api.Types) api.Types {
	if len(t.Defs) == 0 || m.Intn(30) == 0 {
		return with(t, api.Def{Kind: m.Intn(9) - 1, Name: m.badName(), Ref: m.Intn(3), N: m.Intn(3)})
	}
	out := clone(t)
	d := &out.Defs[m.Intn(len(out.Defs))]
	n := pick(m, pick(m, extreme...), m.Intn(len(out.Defs)+1), m.Intn(10)-2)
	switch m.Intn(10) {
	case 0:
		d.Kind = pick(m, m.Intn(9)-1, n)
	case 1:
		d.Name = m.badName()
	case 2:
		d.Int = pick(m, api.Int{Size: n}, api.Int{Size: 4}, api.Int{Signed: true}, api.Int{})
	case 3, 4:
		d.Ref = n
	case 5:
		d.N = n
	case 6:
		d.Fields = pick(m, nil, m.fieldsOf(1), m.fieldsOf(33), append(d.Fields, d.Fields...))
	default:
		if len(d.Fields) == 0 {
			d.Ref = m.Intn(len(out.Defs))
			break
		}
		f := &d.Fields[m.Intn(len(d.Fields))]
		m.turnField(f, len(out.Defs)+1)
		*pick(m, &f.Type, &f.At, &f.At) = n
	}
	return out
}

// bytesOf returns bytes that are mostly not those of t, but for a few.
func (m maker) bytesOf(t api.Types) []byte {
	b := modelEncode(t)
	for range m.Intn(3) {
		at := m.Intn(len(b))
		switch m.Intn(5) {
		case 0:
			b[at] = byte(m.Intn(256))
		case 1:
			b[at] += byte(pick(m, 1, 2, 128, 255))
		case 2:
			b = append(b[:at], b[at+1:]...)
		case 3:
			b = slices.Insert(b, at, byte(m.Intn(256)))
		case 4:
			b = append(b[:at], 128, 255, byte(m.Intn(3)))
		}
		if len(b) == 0 {
			return b
		}
	}
	return b
}

// nameOf returns a name of type data, or something else.
func (m maker) nameOf(t api.Types) string {
	if len(t.Defs) == 0 || m.Intn(4) == 0 {
		return m.badName()
	}
	d := t.Defs[m.Intn(len(t.Defs))]
	if len(d.Fields) > 0 && m.Intn(2) == 0 {
		return d.Fields[m.Intn(len(d.Fields))].Name
	}
	return d.Name
}

// path returns names that lead from a type of well-formed type data, and may then not lead on.
func (m maker) path(t api.Types, i int) []string {
	var out []string
	for len(out) < 20 && i >= 0 && i < len(t.Defs) {
		d := t.Defs[modelResolve(t, i)]
		if d.Kind != api.DfStruct || m.Intn(5) == 0 {
			break
		}
		f := d.Fields[m.Intn(len(d.Fields))]
		out = append(out, f.Name)
		i = f.Type
	}
	if m.Intn(4) == 0 {
		out = append(out, m.nameOf(t))
	}
	if m.Intn(20) == 0 {
		out = append(out, same("a", 17)...)
	}
	return out
}

// index returns a type of type data, or something else.
func (m maker) index(t api.Types) int {
	if m.Intn(8) == 0 || len(t.Defs) == 0 {
		return pick(m, append([]int{len(t.Defs), 0}, extreme...)...)
	}
	i := m.Intn(len(t.Defs))
	// Structures, and other names of some, are of more interest.
	for range 4 {
		if kind := t.Defs[i].Kind; kind == api.DfStruct || kind == api.DfAlias {
			break
		}
		i = m.Intn(len(t.Defs))
	}
	return i
}

// given returns arguments, in most of the cases with well-formed type data, of which two often are parts of the same one.
func (m maker) given() given {
	all := m.types(pick(m, 3, 8, 16, 30))
	g := given{T: m.part(all), U: m.part(all)}
	g.I = m.index(g.T)
	g.Path = m.path(g.T, g.I)
	switch m.Intn(8) {
	case 0, 1:
		g.U = m.another(g.U)
	case 2:
		g.U = m.types(12)
	case 3:
		g.T, g.U = all, m.shuffled(all)
	case 4:
		g.U = clone(g.T)
	case 5:
		g.T = m.broken(g.T)
	case 6:
		g.U = m.broken(g.U)
	}
	g.J = m.index(g.U)
	g.Name = m.nameOf(g.T)
	if len(g.Path) > 0 && m.Intn(2) == 0 {
		g.Name = g.Path[0]
	}
	if len(g.T.Defs) > 0 {
		g.Names = m.namesOf(g.T, 4)
		if m.Intn(6) == 0 {
			g.Names = append(g.Names, m.nameOf(g.T))
		}
	}
	g.B = m.bytesOf(pick(m, g.T, g.U, m.types(2)))
	return g
}

// enough expects each case to have been met so many times.
func enough(t *testing.T, counts map[string]int, least int, cases ...string) {
	t.Helper()
	for _, c := range cases {
		if counts[c] < least {
			t.Errorf("too few cases of %s: %v", c, counts)
		}
	}
}

// P8.1: all functions do what the model says, for random arguments.
func TestRandomCalls(t *testing.T) {
	m := newMaker()
	counts := map[string]int{}
	for range 6000 {
		g := m.given()
		for name, e := range compareAll(t, g) {
			counts[fmt.Sprint(name, " ", e)]++
		}
		counts[fmt.Sprint("Equal of two ", modelCheck(g.T) && modelCheck(g.U) && g.I < len(g.T.Defs) && g.J < len(g.U.Defs))]++
	}
	enough(t, counts, 500, "Check 0", "Check 80", "Size 3", "Member 0", "Path 0", "Unique 0", "Merge 0", "Trim 0", "Encode 0", "Decode 0", "Decode 81", "Equal of two true")
	enough(t, counts, 100, "Lookup 3", "Resolve 3", "Member 3", "Member 5", "Path 2", "Path 3", "Path 5", "Merge 80", "Merge 82", "Trim 3", "Decode 80")
}

// P8.1: Check, and all other functions, of random type data of which most is not well-formed.
func TestRandomTypes(t *testing.T) {
	m := newMaker()
	counts := map[string]int{}
	for range 60000 {
		x := m.broken(m.types(pick(m, 1, 2, 4, 10)))
		if m.Intn(4) == 0 {
			x = m.broken(x)
		}
		valid := modelCheck(x)
		counts[fmt.Sprint("valid ", valid)]++
		out := lookups()[0].compare(t, given{T: x})
		if (out.Err == api.OK) != valid {
			t.Fatalf("Check of %s: %d", show(x), out.Err)
		}
	}
	enough(t, counts, 10000, "valid true", "valid false")
}
