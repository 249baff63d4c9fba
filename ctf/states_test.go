package ctf_test

import (
	"fmt"
	"math"
	"slices"
	"strings"
	"testing"

	"tapline/api"
)

// namedTypes is type data with what it is.
type namedTypes struct {
	name string
	t    api.Types
}

// one is type data with an integer, char, and further definitions behind it.
func one(defs ...api.Def) api.Types { return with(data(num("char", 1, true)), defs...) }

// wellFormed is type data with the edges of each rule.
func wellFormed() []namedTypes {
	out := []namedTypes{
		{"no definitions", api.Types{}}, {"no definitions, not nil", api.Types{Defs: []api.Def{}}}, {"the example", example()}, {"rich", rich()},
		{"200 definitions", many("a", 200)}, {"names of 1 and 31 bytes", data(num("a", 1, true), num("_", 1, true), num("Z", 1, true), num(long(31), 1, true), rec("s", 2, field(long(31), 0, 0), field("x", 0, 1)), enum("e", value(long(31), 1), value("y", 2)))},
		{"digits behind", data(num("a0", 1, true), num("_9", 1, true), enum("A1", value("b2", 0)))}, {"names that differ in case", data(num("a", 1, true), num("A", 1, true), enum("e", value("x", 1), value("X", 1)))},
		{"a name of a definition and of fields", data(num("a", 1, true), rec("s", 1, field("a", 0, 0)), enum("e", value("a", 0), value("s", 1)), rec("r", 1, field("a", 0, 0)))},
		{"arrays of 1 and of 512", one(arr(0, 1), arr(0, 512), arr(1, 512), arr(2, 1))}, {"an array of 512 bytes", one(num("int", 8, true), arr(1, 64), rec("s", 256, field("f", 0, 0)), arr(3, 2))},
		{"an array of pointers to what is large", one(arr(0, 512), ptr(1), arr(2, 64))},
		{"a structure of 1 byte", one(rec("s", 1, field("f", 0, 0)))}, {"a structure of 512 bytes", one(rec("s", 512, field("f", 0, 511)))}, {"a structure with an array as large as it", one(arr(0, 512), rec("s", 512, field("f", 1, 0)))},
		{"32 members that touch", one(rec("s", 32, fields(32, 1)...))}, {"32 members with gaps", one(rec("s", 512, fields(32, 16)...))}, {"a member at the end", one(rec("s", 8, field("f", 0, 7)))}, {"only gaps around", one(rec("s", 8, field("f", 0, 3)))},
		{"values at both ends of their range", data(enum("e", value("a", math.MinInt32), value("b", math.MaxInt32), value("c", 0), value("d", 0), value("f", -1)))}, {"32 names", data(enum("e", fields(32, 1)...))},
		{"aliases of aliases", one(alias("a", 2), alias("b", 3), alias("c", 0))}, {"pointers to each other's structures", data(rec("a", 8, field("f", 1, 0)), ptr(2), rec("b", 8, field("f", 3, 0)), ptr(0))},
		{"a structure with pointers to itself", data(rec("a", 16, field("f", 1, 0), field("g", 2, 8)), ptr(0), arr(3, 1), ptr(1))}, {"an alias of a pointer to it", data(ptr(1), alias("a", 0))},
		{"an array of pointers to a structure that has it", data(rec("a", 16, field("f", 1, 0)), arr(2, 2), ptr(0))}, {"the same anonymous type several times", one(ptr(0), ptr(0), arr(0, 2), arr(0, 2), ptr(1), ptr(2))},
		{"what contains a type twice", data(rec("a", 2, field("f", 1, 0), field("g", 2, 1)), alias("b", 2), num("c", 1, false))},
		{"integers of each size", data(num("a", 1, false), num("b", 2, false), num("c", 4, false), num("d", 8, false), num("e", 1, true), num("f", 2, true), num("g", 4, true), num("h", 8, true))},
	}
	// 199 pointers, each to the next one, and the other way round; as many arrays of one element, and aliases.
	pointers, back, arrays, aliases := api.Types{}, one(), api.Types{}, api.Types{}
	for i := range 199 {
		pointers.Defs = append(pointers.Defs, ptr(i+1))
		back.Defs = append(back.Defs, ptr(i))
		arrays.Defs = append(arrays.Defs, arr(i+1, 1))
		aliases.Defs = append(aliases.Defs, alias(fmt.Sprint("a", i), i+1))
	}
	last := num("char", 1, true)
	return append(out, namedTypes{"199 pointers", with(pointers, last)}, namedTypes{"199 pointers back", back}, namedTypes{"199 arrays", with(arrays, last)}, namedTypes{"199 aliases", with(aliases, last)})
}

// P8.1: Check of well-formed type data, and each other function with each type of it.
func TestWellFormed(t *testing.T) {
	for _, x := range wellFormed() {
		if out := lookups()[0].compare(t, given{T: x.t}); out.Err != api.OK {
			t.Errorf("Check of %s: %d", x.name, out.Err)
		}
		for i := 0; i < len(x.t.Defs); i += max(1, len(x.t.Defs)/7) {
			d := x.t.Defs[i]
			g := given{T: x.t, U: x.t, I: i, J: i, Name: d.Name, B: modelEncode(x.t)}
			if len(d.Fields) > 0 {
				g.Name, g.Path = d.Fields[0].Name, []string{d.Fields[0].Name}
			}
			errs := compareAll(t, g)
			for _, name := range []string{"Check", "Size", "Text", "Resolve", "Unique", "Merge", "Trim", "Encode", "Decode"} {
				if errs[name] != api.OK {
					t.Errorf("%s of type %d of %s: %d", name, i, x.name, errs[name])
				}
			}
		}
	}
}

// brokenNames has for each string that is no name, type data that is well-formed but for it.
func brokenNames() []namedTypes {
	var out []namedTypes
	bad := []string{"", "0", "9", "1a", "99", long(32), long(33), strings.Repeat("x", 100000), "é", "a é"}
	for c := range 256 {
		s := string([]byte{byte(c)})
		if !nameForm.MatchString(s) {
			bad = append(bad, s)
			if !nameForm.MatchString("a" + s) {
				bad = append(bad, "a"+s, "a"+s+"b", "a"+s+long(29))
			}
		}
	}
	for _, s := range bad {
		what := fmt.Sprintf(" %.40q", s)
		out = append(out,
			namedTypes{"an integer" + what, one(num(s, 4, true))}, namedTypes{"a structure" + what, one(rec(s, 1, field("f", 0, 0)))},
			namedTypes{"an enumeration" + what, one(enum(s, value("a", 1)))}, namedTypes{"an alias" + what, one(alias(s, 0))},
			namedTypes{"a member" + what, one(rec("s", 2, field("f", 0, 0), field(s, 0, 1)))}, namedTypes{"a name of an enumeration" + what, one(enum("e", value(s, 1), value("a", 2)))})
	}
	return out
}

// unusedFields has type data in which a field is not zero that its kind does not use.
func unusedFields() []namedTypes {
	var out []namedTypes
	f := field("f", 0, 0)
	for kind, d := range map[int]api.Def{api.DfInt: num("x", 2, true), api.DfPtr: ptr(0), api.DfArray: arr(0, 2), api.DfStruct: rec("x", 1, f), api.DfEnum: enum("x", f), api.DfAlias: alias("x", 0)} {
		for what, change := range map[string]func(d *api.Def){
			"name": func(d *api.Def) { d.Name = "name" }, "int size": func(d *api.Def) { d.Int.Size = 4 }, "int sign": func(d *api.Def) { d.Int.Signed = true }, "int": func(d *api.Def) { d.Int = api.Int{Size: 8, Signed: true} },
			"ref": func(d *api.Def) { d.Ref = 1 }, "ref -1": func(d *api.Def) { d.Ref = -1 }, " n": func(d *api.Def) { d.N = 1 }, " n -1": func(d *api.Def) { d.N = -1 }, "fields": func(d *api.Def) { d.Fields = []api.Field{f} }, "fields zero": func(d *api.Def) { d.Fields = make([]api.Field, 1) },
		} {
			if !strings.Contains(uses[kind], strings.Fields(what)[0]) || what[0] == ' ' && !strings.Contains(uses[kind], " n") {
				out = append(out, namedTypes{fmt.Sprint("kind ", kind, " with ", what), changed(one(num("other", 1, true), d), 2, change)})
			}
		}
	}
	return out
}

// brokenNumbers has type data in which a number is out of its range.
func brokenNumbers() []namedTypes {
	var out []namedTypes
	add := func(what string, n int, t api.Types) {
		out = append(out, namedTypes{fmt.Sprint(what, " ", n), t})
	}
	far := []int{math.MinInt, math.MinInt + 1, math.MinInt64 / 2, -1 << 32, -1, 1 << 32, math.MaxInt / 512, math.MaxInt - 1, math.MaxInt}
	for _, n := range append([]int{-8, 7, 8, 128}, far...) {
		add("the kind", n, one(api.Def{Kind: n, Name: "x"}))
		add("the kind of what looks like an integer", n, one(api.Def{Kind: n, Name: "x", Int: api.Int{Size: 1}}))
		add("the kind of what looks like an array", n, one(api.Def{Kind: n, N: 1}))
	}
	add("the kind", 0, one(api.Def{}))
	add("the kind of what looks like an alias", 0, one(api.Def{Name: "x"}))
	for _, n := range append([]int{0, 3, 5, 6, 7, 9, 16, -4}, far...) {
		add("an integer's size", n, one(num("x", n, true)))
	}
	for _, n := range append([]int{2, 3, 200}, far...) {
		add("a pointer to", n, one(ptr(n)))
		add("an array of", n, one(arr(n, 1)))
		add("an alias of", n, one(alias("x", n)))
		add("a member of the type", n, one(rec("x", 8, field("f", 0, 0), field("g", n, 4))))
	}
	for _, n := range append([]int{1, 2}, far...) {
		add("a name of an enumeration of the type", n, one(enum("x", field("a", n, 0))))
	}
	for _, n := range append([]int{0, 513}, far...) {
		add("elements of an array", n, one(arr(0, n)))
		add("size of a structure", n, one(rec("x", n, field("f", 0, 0))))
	}
	for _, n := range append([]int{0, 1, 4, 5, 8}, far...) {
		// The second one of three members of 4 bytes, at 2, 6 and 10 of 14.
		add("a member out of place at", n, one(num("int", 4, true), rec("x", 14, field("f", 1, 2), field("g", 1, n), field("h", 1, 10))))
	}
	for _, n := range append([]int{11, 13, 14, 15, 9, 5}, far...) {
		add("a member behind the end at", n, one(num("int", 4, true), rec("x", 14, field("f", 1, 2), field("g", 1, 6), field("h", 1, n))))
		add("the only member at", n, one(num("int", 4, true), rec("x", 8, field("f", 1, n))))
	}
	for _, n := range []int{math.MinInt, math.MinInt32 - 1, math.MinInt64 / 2, math.MaxInt32 + 1, 1 << 32, math.MaxInt} {
		add("a value", n, one(enum("x", value("a", 0), value("b", n))))
	}
	return out
}

// brokenRules has type data in which another rule is broken.
func brokenRules() []namedTypes {
	long := api.Types{Defs: make([]api.Def, 1000000)}
	for i := range long.Defs {
		long.Defs[i] = ptr(i)
	}
	return []namedTypes{
		{"201 definitions", many("a", 201)}, {"201 pointers", with(one(), slices.Repeat([]api.Def{ptr(0)}, 200)...)}, {"a million definitions", long},
		{"no members", one(rec("x", 8))}, {"33 members", one(rec("x", 512, fields(33, 8)...))}, {"a million members", one(rec("x", 512, fields(1000000, 0)...))}, {"no names", one(enum("x"))}, {"33 names", one(enum("x", fields(33, 1)...))},
		{"a name twice", one(num("x", 4, true), num("x", 4, true))}, {"a name of two kinds", one(rec("x", 1, field("f", 0, 0)), alias("x", 0))}, {"a name of an enumeration and an alias", one(enum("x", value("a", 1)), alias("y", 0), alias("x", 0))}, {"the first name again", one(num("y", 4, true), alias("char", 1))},
		{"a member's name twice", one(rec("x", 8, field("f", 0, 0), field("g", 0, 1), field("f", 0, 2)))}, {"a name of an enumeration twice", one(enum("x", value("a", 1), value("b", 2), value("a", 3)))}, {"a name and value twice", one(enum("x", value("a", 1), value("a", 1)))},
		{"an alias of itself", data(alias("x", 0))}, {"aliases of each other", data(alias("x", 1), alias("y", 0))}, {"three aliases of each other", one(alias("x", 2), alias("y", 3), alias("z", 1))},
		{"a structure in itself", data(rec("x", 8, field("f", 0, 0)))}, {"a structure in itself, behind another one", one(rec("x", 8, field("f", 0, 0), field("g", 1, 1)))}, {"an array of structures that have it", data(rec("x", 8, field("f", 1, 0)), arr(0, 1))},
		{"an alias of a structure with it", data(rec("x", 8, field("f", 1, 0)), alias("y", 0))}, {"structures in each other", data(rec("x", 8, field("f", 1, 0)), rec("y", 8, field("f", 0, 0)))}, {"a long way round", one(rec("x", 8, field("f", 2, 0)), alias("y", 3), arr(4, 1), rec("z", 8, field("f", 5, 0)), alias("w", 1))},
		{"an alias of an array of it", data(alias("x", 1), arr(0, 1))},
		{"a pointer to itself", data(ptr(0))}, {"pointers to each other", data(ptr(1), ptr(0))}, {"a pointer to such", one(ptr(2), ptr(3), ptr(2))}, {"an array of itself", data(arr(0, 1))}, {"an array of pointers to it", data(arr(1, 1), ptr(0))}, {"such, behind what ends", one(ptr(0), arr(3, 2), ptr(2))},
		{"an array of 513 bytes", one(arr(0, 171), arr(1, 3))}, {"an array of 1024 bytes", one(arr(0, 512), arr(1, 2))}, {"an array of 65 pointers", one(ptr(0), arr(1, 65))}, {"an array of 129 values of an enumeration", data(enum("e", value("a", 1)), arr(0, 129))}, {"an array of aliases", one(alias("x", 2), arr(0, 257), arr(1, 2))}, {"a pointer to an array that is too large", one(ptr(2), arr(3, 512), arr(0, 512))},
		{"arrays of arrays", one(arr(0, 512), arr(1, 512), arr(2, 512), arr(3, 512), arr(4, 512), arr(5, 512), arr(6, 512), arr(7, 512))}, {"arrays whose size is none of 64 bits", one(slices.Collect(func(yield func(api.Def) bool) {
			for i := range 198 {
				yield(arr(i, 512))
			}
		})...)},
		{"members that overlap", one(num("int", 4, true), rec("x", 16, field("f", 1, 0), field("g", 1, 3)))}, {"members that overlap by an array", one(arr(0, 9), rec("x", 16, field("f", 1, 0), field("g", 0, 8)))}, {"members at one place", one(rec("x", 16, field("f", 0, 4), field("g", 0, 4)))}, {"a member in another one", one(arr(0, 9), rec("x", 16, field("f", 1, 0), field("g", 0, 1), field("h", 0, 9)))},
		{"members out of order", one(rec("x", 16, field("f", 0, 1), field("g", 0, 0)))}, {"the last member out of order", one(rec("x", 16, field("f", 0, 4), field("g", 0, 8), field("h", 0, 6)))}, {"a member at the end", one(rec("x", 16, field("f", 0, 16)))}, {"a member that passes the end", one(num("int", 4, true), rec("x", 7, field("f", 1, 4)))},
		{"a structure without room", one(num("int", 8, true), rec("x", 7, field("f", 1, 0)))}, {"an alias that passes the end", one(alias("y", 3), rec("x", 4, field("f", 1, 1)), num("int", 4, true))}, {"a pointer that passes the end", one(ptr(0), rec("x", 15, field("f", 1, 8)))}, {"a structure that passes the end", one(rec("y", 8, field("f", 0, 0)), rec("x", 15, field("f", 1, 8)))},
	}
}

// broken is type data each of which breaks a rule.
func broken() []namedTypes {
	return slices.Concat(unusedFields(), brokenNumbers(), brokenRules())
}

// P8.1: type data that breaks a rule: each function with it returns ErrTypes alone, whatever the other arguments are, and Equal false.
func TestBroken(t *testing.T) {
	for _, x := range broken() {
		for _, g := range []given{{T: x.t}, {T: x.t, I: -1, J: 999, Path: make([]string, 17), Names: make([]string, 201)}, {T: x.t, U: rich(), I: 1, J: 1, Name: "char", Path: []string{"f"}, Names: []string{"char"}}, {T: x.t, U: x.t}} {
			for _, c := range slices.Concat(lookups(), changes()) {
				if out := c.make(g); !equalResults(out, result{Err: api.ErrTypes}) {
					t.Fatalf("%s with %s: %s", c.name, x.name, out.show())
				}
			}
			if c := others()[0]; c.make(g).Is {
				t.Errorf("Equal with %s", x.name)
			}
		}
		if g := (given{T: rich(), U: x.t}); !equalResults(changes()[1].make(g), result{Err: api.ErrTypes}) || others()[0].make(g).Is {
			t.Errorf("Merge or Equal with %s as the second one", x.name)
		}
		if len(x.t.Defs) < 1000 && !strings.Contains(x.name, "million") {
			lookups()[0].compare(t, given{T: x.t})
			makes(t, "Decode", given{B: modelEncode(x.t)}, result{Err: api.ErrTypes})
			makes(t, "Same", given{T: x.t, U: x.t}, result{Is: true})
			makes(t, "Same", given{T: x.t, U: rich()}, result{})
		}
	}
}

// P8.1: strings that are no names, wherever a name stands.
func TestBrokenNames(t *testing.T) {
	for _, x := range brokenNames() {
		makes(t, "Check", given{T: x.t}, result{Err: api.ErrTypes})
	}
	for _, s := range []string{"a", "z", "A", "Z", "_", "a0", "az", "aZ", "a9", "a_", "__", long(31)} {
		makes(t, "Check", given{T: one(num(s, 4, true))}, result{})
		makes(t, "Check", given{T: one(rec("s", 2, field("f", 0, 0), field(s, 0, 1)), enum("e", value(s, 1)))}, result{})
	}
}

// differences are type data, well-formed or not, that differ from rich in one field alone.
func differences() map[string]api.Types {
	out := map[string]api.Types{"one more": with(rich(), ptr(0)), "one less": data(rich().Defs[:richEnd-1]...), "none": {}, "the first one alone": data(rich().Defs[0]), "another order": data(append(rich().Defs[1:], rich().Defs[0])...)}
	for name, change := range map[string]func(d *api.Def){
		"Kind": func(d *api.Def) { d.Kind = 9 }, "Name": func(d *api.Def) { d.Name = "thread_T" }, "Size": func(d *api.Def) { d.Int.Size = -1 }, "Signed": func(d *api.Def) { d.Int.Signed = true }, "Ref": func(d *api.Def) { d.Ref = 1 }, "N": func(d *api.Def) { d.N++ },
		"a field less": func(d *api.Def) { d.Fields = d.Fields[:5] }, "a field more": func(d *api.Def) { d.Fields = append(d.Fields, api.Field{}) }, "no fields": func(d *api.Def) { d.Fields = nil },
		"a field's name": func(d *api.Def) { d.Fields[0].Name = "" }, "a field's Type": func(d *api.Def) { d.Fields[5].Type++ }, "a field's At": func(d *api.Def) { d.Fields[5].At-- }, "the order of fields": func(d *api.Def) { slices.Reverse(d.Fields) },
	} {
		out[name] = changed(rich(), threadT, change)
	}
	return out
}

// P8.1: Same of type data that differs in one field alone, well-formed or not; an empty list and nil are the same.
func TestSame(t *testing.T) {
	all := differences()
	all["rich"] = rich()
	for a, x := range all {
		for b, y := range all {
			makes(t, "Same", given{T: x, U: clone(y)}, result{Is: a == b})
		}
	}
	empty := api.Types{Defs: []api.Def{}}
	makes(t, "Same", given{U: empty}, result{Is: true})
	makes(t, "Same", given{T: empty}, result{Is: true})
	filled := changed(rich(), int32T, func(d *api.Def) { d.Fields = []api.Field{} })
	makes(t, "Same", given{T: rich(), U: filled}, result{Is: true})
	makes(t, "Same", given{T: filled, U: rich()}, result{Is: true})
	compareAll(t, given{T: filled, U: empty, B: modelEncode(filled)})
}
