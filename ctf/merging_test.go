package ctf_test

import (
	"fmt"
	"slices"
	"testing"

	"tapline/api"
)

// equals expects which types of t are equivalent to the type with the same text of u, in both directions.
func equals(t *testing.T, what string, a, b api.Types, want func(text string) bool) {
	t.Helper()
	for i, x := range modelTexts(a) {
		for j, y := range modelTexts(b) {
			is := x == y && want(x)
			makes(t, "Equal", given{T: a, I: i, U: b, J: j}, result{Is: is})
			makes(t, "Equal", given{T: b, I: j, U: a, J: i}, result{Is: is})
		}
	}
	if t.Failed() {
		t.Fatal(what)
	}
}

// P8.1: Equal of all pairs of types in the same type data, in another order, and in type data with one more definition.
func TestEqual(t *testing.T) {
	always := func(string) bool { return true }
	m := newMaker()
	for _, x := range []api.Types{rich(), example(), chain(6), one(ptr(0), ptr(0), arr(1, 2), arr(2, 2))} {
		equals(t, "itself", x, x, always)
		equals(t, "another order", x, m.shuffled(x), always)
		equals(t, "one more", x, with(x, enum("more", value("a", 1)), ptr(len(x.Defs))), always)
		equals(t, "with types ahead", x, m.shuffled(with(x, enum("more", value("a", 1)), num("int99", 2, true))), always)
	}
}

// P8.1: Equal of type data in which one definition differs: no type from which it is reached is equivalent.
func TestNotEqual(t *testing.T) {
	far := []string{"char", "char [8]", "char [8] *", "char [8] * [2]", "char [8] * *", "int32", "state_e", "lock_t"}
	for _, c := range []struct {
		what   string
		i      int
		change func(d *api.Def)
		// The types that remain equivalent, of those in far.
		but []string
	}{
		{"the size of a structure", lockT, func(d *api.Def) { d.N = 12 }, far[:7]}, {"a member's name", lockT, func(d *api.Def) { d.Fields[0].Name = "l" }, far[:7]}, {"a member's place", lockT, func(d *api.Def) { d.Fields[0].At = 0 }, far[:7]}, {"a member's type", lockT, func(d *api.Def) { d.Fields[0].Type = stateE }, far[:7]},
		{"a member's array", lockT, func(d *api.Def) { d.Fields[0] = field("l_word", charT, 4) }, far[:7]}, {"one more member", lockT, func(d *api.Def) { d.Fields = append([]api.Field{field("l", charT, 0)}, d.Fields...) }, far[:7]},
		{"the sign of an integer", int32T, func(d *api.Def) { d.Int.Signed = false }, slices.Concat(far[:5], far[6:7])}, {"the sign of char", charT, func(d *api.Def) { d.Int.Signed = false }, far[5:]},
		{"a value", stateE, func(d *api.Def) { d.Fields[2].At = 1 }, slices.Concat(far[:6], far[7:])}, {"the order of the names", stateE, func(d *api.Def) { slices.Reverse(d.Fields) }, slices.Concat(far[:6], far[7:])}, {"a name of an enumeration", stateE, func(d *api.Def) { d.Fields[0].Name = "run" }, slices.Concat(far[:6], far[7:])}, {"one name less", stateE, func(d *api.Def) { d.Fields = d.Fields[:2] }, slices.Concat(far[:6], far[7:])},
		{"another kind", stateE, func(d *api.Def) { *d = num("state_e", 4, true) }, slices.Concat(far[:6], far[7:])}, {"an alias in its place", stateE, func(d *api.Def) { *d = alias("state_e", int32T) }, slices.Concat(far[:6], far[7:])},
		{"what an alias stands for", thrT, func(d *api.Def) { *d = alias("thr_t", lockT) }, far}, {"a structure in place of an alias", thrT, func(d *api.Def) { *d = rec("thr_t", 48, field("t_tid", int32T, 0)) }, far},
	} {
		x := changed(rich(), c.i, c.change)
		if !modelCheck(x) {
			t.Fatalf("%s is not well-formed", c.what)
		}
		equals(t, c.what, rich(), x, func(text string) bool { return slices.Contains(c.but, text) })
	}
	// What is not reached does not matter, and an array of another length has another text.
	equals(t, "what is not reached", rich(), with(rich(), num("far", 8, true)), func(string) bool { return true })
	makes(t, "Equal", given{T: one(arr(0, 2)), I: 1, U: one(arr(0, 3)), J: 1}, result{})
	makes(t, "Equal", given{T: one(arr(0, 2), ptr(1)), I: 2, U: one(ptr(0), arr(1, 2)), J: 2}, result{})
	// An enumeration whose name is that of an integer of its size, and names that are texts of nothing.
	makes(t, "Equal", given{T: data(num("x", 4, true)), U: data(enum("x", value("a", 0)))}, result{})
	makes(t, "Equal", given{T: data(num("x", 4, true)), U: data(num("y", 4, true))}, result{})
	makes(t, "Equal", given{T: data(num("x", 4, true)), U: data(num("x", 8, true))}, result{})
}

// P8.1: numbers of types do not matter for Equal: those of definitions that lead nowhere are not looked at.
func TestEqualOfOtherNumbers(t *testing.T) {
	a := data(num("int", 4, true), enum("e", value("x", 1)), rec("s", 4, field("f", 1, 0)))
	b := data(rec("s", 4, field("f", 3, 0)), ptr(0), num("int", 4, true), enum("e", value("x", 1)))
	makes(t, "Equal", given{T: a, I: 0, U: b, J: 2}, result{Is: true})
	makes(t, "Equal", given{T: a, I: 1, U: b, J: 3}, result{Is: true})
	makes(t, "Equal", given{T: a, I: 2, U: b, J: 0}, result{Is: true})
	makes(t, "Equal", given{T: b, I: 0, U: a, J: 2}, result{Is: true})
	makes(t, "Equal", given{T: b, I: 1, U: a, J: 2}, result{})
}

// P8.1: Unique of type data in which texts occur several times.
func TestUnique(t *testing.T) {
	makes(t, "Unique", given{T: with(example(), ptr(1))}, result{T: example(), A: []int{0, 1, 2, 3, 4, 2}})
	makes(t, "Unique", given{}, result{})
	makes(t, "Unique", given{T: rich()}, result{T: rich(), A: []int{0, 1, 2, 3, 4, 5, 6, 7, 8, 9, 10, 11, 12, 13}})
	makes(t, "Unique", given{T: one(ptr(0), ptr(0), arr(1, 2), arr(2, 2), ptr(4), ptr(3), arr(0, 2))}, result{T: one(ptr(0), arr(1, 2), ptr(2), arr(0, 2)), A: []int{0, 1, 1, 2, 2, 3, 3, 4}})
	// The first one with a text stands ahead of what it leads to, which is kept at another number.
	makes(t, "Unique", given{T: data(ptr(3), ptr(2), ptr(4), ptr(4), num("c", 1, true), ptr(0))}, result{T: data(ptr(1), ptr(2), num("c", 1, true), ptr(0)), A: []int{0, 0, 1, 1, 2, 3}})
	x := data(ptr(3), ptr(3), enum("e", value("a", 7)), rec("s", 24, field("f", 1, 0), field("g", 4, 8), field("h", 5, 16)), ptr(3), alias("p", 1), alias("q", 4))
	want := data(ptr(2), enum("e", value("a", 7)), rec("s", 24, field("f", 0, 0), field("g", 0, 8), field("h", 3, 16)), alias("p", 0), alias("q", 0))
	makes(t, "Unique", given{T: x}, result{T: want, A: []int{0, 0, 1, 2, 0, 3, 4}})
	makes(t, "Unique", given{T: with(one(), slices.Repeat([]api.Def{ptr(0)}, 199)...)}, result{T: one(ptr(0)), A: append([]int{0}, slices.Repeat([]int{1}, 199)...)})
	makes(t, "Unique", given{T: many("a", 200)}, result{T: many("a", 200), A: upTo(200)})
}

// upTo returns the numbers below n.
func upTo(n int) []int {
	var out []int
	for i := range n {
		out = append(out, i)
	}
	return out
}

// P8.1: Merge of type data with itself, with nothing, and with equal and further definitions.
func TestMerge(t *testing.T) {
	makes(t, "Merge", given{T: example(), U: changed(example(), 1, func(d *api.Def) { d.N = 32 })}, result{Err: api.ErrMerge})
	makes(t, "Merge", given{T: data(num("x", 4, true)), U: data(rec("thread_t", 1, field("f", 1, 0)), num("c", 1, true))}, result{T: data(num("x", 4, true), rec("thread_t", 1, field("f", 2, 0)), num("c", 1, true)), A: []int{0}, B: []int{1, 2}})
	for _, x := range []api.Types{{}, rich(), example(), many("a", 200)} {
		all := upTo(len(x.Defs))
		makes(t, "Merge", given{T: x, U: x}, result{T: x, A: all, B: all})
		makes(t, "Merge", given{T: x}, result{T: x, A: all})
		makes(t, "Merge", given{U: x}, result{T: x, B: all})
	}
	// What is in the first one stays in its order; each text is kept once, from the first one that has it.
	a := data(ptr(1), num("c", 1, true), ptr(1), enum("e", value("a", 1), value("b", 2)))
	b := data(arr(2, 3), rec("s", 16, field("f", 2, 0), field("g", 4, 8)), ptr(3), num("c", 1, true), enum("e", value("a", 1), value("b", 2)), arr(2, 3), alias("q", 1), num("d", 2, false))
	want := data(ptr(1), num("c", 1, true), enum("e", value("a", 1), value("b", 2)), arr(0, 3), rec("s", 16, field("f", 0, 0), field("g", 2, 8)), alias("q", 4), num("d", 2, false))
	makes(t, "Merge", given{T: a, U: b}, result{T: want, A: []int{0, 1, 0, 2}, B: []int{3, 4, 0, 1, 2, 3, 5, 6}})
	// The other way round: names of an enumeration keep their Type 0.
	want = data(arr(2, 3), rec("s", 16, field("f", 2, 0), field("g", 4, 8)), ptr(3), num("c", 1, true), enum("e", value("a", 1), value("b", 2)), alias("q", 1), num("d", 2, false))
	makes(t, "Merge", given{T: b, U: a}, result{T: want, A: []int{0, 1, 2, 3, 4, 0, 5, 6}, B: []int{2, 3, 2, 4}})
	m := newMaker()
	for range 20 {
		x := m.shuffled(rich())
		to := make([]int, richEnd)
		for i := range to {
			to[i] = slices.Index(modelTexts(rich()), modelText(x, i))
		}
		makes(t, "Merge", given{T: rich(), U: x}, result{T: rich(), A: upTo(richEnd), B: to})
	}
}

// P8.1: Merge of type data with different definitions of one Name, of which one may differ only in what it leads to.
func TestMergeOfOthers(t *testing.T) {
	c, a := num("c", 1, true), value("a", 1)
	for _, x := range []struct {
		what string
		t, u api.Types
	}{
		{"sizes", data(num("x", 4, true)), data(num("x", 8, true))}, {"signs", data(num("x", 4, true)), data(c, num("x", 4, false))}, {"kinds", data(num("x", 4, true)), data(enum("x", a))}, {"an alias and what it stands for", data(num("x", 4, true)), data(num("y", 4, true), alias("x", 0))},
		{"aliases", data(c, num("d", 1, true), alias("x", 0)), data(c, num("d", 1, true), alias("x", 1))}, {"aliases of what the other one has not", data(c, alias("x", 0)), data(num("d", 1, true), alias("x", 0))}, {"aliases of an array", data(c, arr(0, 2), alias("x", 1)), data(c, arr(0, 3), alias("x", 1))},
		{"structures", data(c, rec("x", 1, field("f", 0, 0))), data(c, rec("x", 2, field("f", 0, 0)))}, {"members", data(c, rec("x", 2, field("f", 0, 0))), data(c, rec("x", 2, field("g", 0, 0)))}, {"places", data(c, rec("x", 2, field("f", 0, 0))), data(c, rec("x", 2, field("f", 0, 1)))}, {"types of members", data(c, alias("d", 0), rec("x", 2, field("f", 0, 0))), data(c, alias("d", 0), rec("x", 2, field("f", 1, 0)))},
		{"how many members", data(c, rec("x", 2, field("f", 0, 0))), data(c, rec("x", 2, field("f", 0, 0), field("g", 0, 1)))}, {"types of pointers", data(c, ptr(0), rec("x", 8, field("f", 1, 0))), data(c, ptr(2), rec("x", 8, field("f", 1, 0)))},
		{"values", data(enum("x", a)), data(enum("x", value("a", 2)))}, {"names", data(enum("x", a)), data(enum("x", value("b", 1)))}, {"order of names", data(enum("x", a, value("b", 1))), data(enum("x", value("b", 1), a))},
		{"what a pointer leads to", data(c, rec("x", 8, field("f", 2, 0)), ptr(3), rec("y", 1, field("g", 0, 0))), data(c, rec("x", 8, field("f", 2, 0)), ptr(3), rec("y", 2, field("g", 0, 0)))},
		{"what an alias leads to", data(c, alias("x", 2), arr(3, 2), alias("y", 0)), data(c, alias("x", 2), arr(3, 2), alias("y", 4), num("d", 1, true))},
	} {
		makes(t, "Merge", given{T: x.t, U: x.u}, result{Err: api.ErrMerge})
		makes(t, "Merge", given{T: x.u, U: x.t}, result{Err: api.ErrMerge})
	}
}

// P8.1: Merge with 200 definitions together, and with more.
func TestMergeOfMany(t *testing.T) {
	both := with(many("a", 120), many("b", 80).Defs...)
	makes(t, "Merge", given{T: many("a", 120), U: many("b", 80)}, result{T: both, A: upTo(120), B: upTo(200)[120:]})
	makes(t, "Merge", given{T: many("a", 120), U: many("b", 81)}, result{Err: api.ErrLong})
	makes(t, "Merge", given{T: many("a", 200), U: many("b", 200)}, result{Err: api.ErrLong})
	makes(t, "Merge", given{T: many("a", 200), U: data(num("b", 1, true))}, result{Err: api.ErrLong})
	makes(t, "Merge", given{T: many("a", 200), U: many("a", 150)}, result{T: many("a", 200), A: upTo(200), B: upTo(150)})
	makes(t, "Merge", given{T: many("a", 150), U: many("a", 200)}, result{T: many("a", 200), A: upTo(150), B: upTo(200)})
	// Texts that occur several times count once; two that differ come first.
	pointers := with(many("a", 100), slices.Repeat([]api.Def{ptr(5)}, 100)...)
	makes(t, "Merge", given{T: pointers, U: many("b", 99)}, result{T: with(many("a", 100), append([]api.Def{ptr(5)}, many("b", 99).Defs...)...), A: append(upTo(100), slices.Repeat([]int{100}, 100)...), B: upTo(200)[101:]})
	makes(t, "Merge", given{T: pointers, U: many("b", 100)}, result{Err: api.ErrLong})
	makes(t, "Merge", given{T: many("a", 200), U: with(many("b", 100), enum("a7", value("x", 1)))}, result{Err: api.ErrMerge})
	// What is not well-formed comes ahead of all.
	makes(t, "Merge", given{T: many("a", 200), U: many("a", 201)}, result{Err: api.ErrTypes})
	makes(t, "Merge", given{T: with(many("a", 100), ptr(-1)), U: with(many("b", 150), enum("a7", value("x", 1)))}, result{Err: api.ErrTypes})
}

// none returns n times -1.
func none(n int) []int { return slices.Repeat([]int{-1}, n) }

// P8.1: Trim with names of each kind of definition, and with several names.
func TestTrim(t *testing.T) {
	x := rich()
	to := func(kept ...int) []int {
		out := none(richEnd)
		for k, i := range kept {
			out[i] = k
		}
		return out
	}
	makes(t, "Trim", given{T: x}, result{A: none(richEnd)})
	makes(t, "Trim", given{T: x, Names: []string{"char"}}, result{T: data(num("char", 1, true)), A: to(charT)})
	makes(t, "Trim", given{T: x, Names: []string{"state_e"}}, result{T: data(x.Defs[stateE]), A: to(stateE)})
	makes(t, "Trim", given{T: x, Names: []string{"lock_t"}}, result{T: data(num("int32", 4, true), rec("lock_t", 8, field("l_word", 0, 4))), A: to(int32T, lockT)})
	makes(t, "Trim", given{T: x, Names: []string{"char", "lock_t", "char"}}, result{T: data(num("int32", 4, true), num("char", 1, true), rec("lock_t", 8, field("l_word", 0, 4))), A: to(int32T, charT, lockT)})
	// Through pointers: all but the pointers and the array that nothing has.
	whole := clone(data(slices.Concat(x.Defs[:arrPtr], x.Defs[lockT:])...))
	whole.Defs[procT].Fields[4].Type = 10
	for _, names := range [][]string{{"thr_t"}, {"thread_t"}, {"proc_t"}, {"proc_t", "thr_t", "thread_t", "int32"}, {"char", "proc_t", "char", "proc_t"}, same("thread_t", 200)} {
		makes(t, "Trim", given{T: x, Names: names}, result{T: whole, A: to(0, 1, 2, 3, 4, 5, 6, 7, 8, 9, lockT)})
	}
	// Of several types with one text those are kept that are reached.
	y := data(ptr(3), ptr(3), alias("p", 1), num("c", 1, true), ptr(3), alias("q", 4), ptr(2), enum("e", value("a", 1)))
	makes(t, "Trim", given{T: y, Names: []string{"q", "p"}}, result{T: data(ptr(2), alias("p", 0), num("c", 1, true), ptr(2), alias("q", 3)), A: []int{-1, 0, 1, 2, 3, 4, -1, -1}})
	makes(t, "Trim", given{T: y, Names: []string{"e"}}, result{T: data(enum("e", value("a", 1))), A: []int{-1, -1, -1, -1, -1, -1, -1, 0}})
}

// P8.1: Trim with names that are none of a definition, with 200 names, and with more.
func TestTrimOfOthers(t *testing.T) {
	for _, x := range []api.Types{{}, rich(), example()} {
		for _, name := range []string{"", "x", "t_tid", "thr_t *", "char [8]", long(31), long(32), "RUN"} {
			makes(t, "Trim", given{T: x, Names: []string{name}}, result{Err: api.ErrNone})
			makes(t, "Trim", given{T: x, Names: []string{"int32", name, "char"}}, result{Err: api.ErrNone})
		}
		makes(t, "Trim", given{T: x, Names: same("x", 200)}, result{Err: api.ErrNone})
		makes(t, "Trim", given{T: x, Names: same("x", 201)}, result{Err: api.ErrLong})
		makes(t, "Trim", given{T: x, Names: same("char", 201)}, result{Err: api.ErrLong})
		makes(t, "Trim", given{T: x, Names: make([]string, 100000)}, result{Err: api.ErrLong})
	}
	var all []string
	for i := range 200 {
		all = append(all, fmt.Sprint("a", 199-i))
	}
	makes(t, "Trim", given{T: many("a", 200), Names: all}, result{T: many("a", 200), A: upTo(200)})
	makes(t, "Trim", given{T: many("a", 200), Names: append(all, "a0")}, result{Err: api.ErrLong})
	makes(t, "Trim", given{T: many("a", 200), Names: append(all[:199:199], "b")}, result{Err: api.ErrNone})
	makes(t, "Trim", given{T: many("a", 201), Names: append(all, "b")}, result{Err: api.ErrTypes})
}

// P8.1: type data through which there are very many ways.
func TestManyWays(t *testing.T) {
	for _, pointers := range []int{2, 32} {
		x := ladder(100, pointers)
		makes(t, "Check", given{T: x}, result{})
		makes(t, "Size", given{T: x, I: 7}, result{N: 8 * pointers})
		makes(t, "Equal", given{T: x, I: 0, U: x, J: 0}, result{Is: true})
		makes(t, "Equal", given{T: x, I: 150, U: x, J: 150}, result{Is: true})
		makes(t, "Equal", given{T: x, I: 150, U: changed(x, 49, func(d *api.Def) { d.Fields[1].Name = "other" }), J: 150}, result{})
		makes(t, "Trim", given{T: x, Names: []string{"s40"}}, result{T: x, A: upTo(200)})
		makes(t, "Merge", given{T: x, U: x}, result{T: x, A: upTo(200), B: upTo(200)})
		makes(t, "Merge", given{T: x, U: changed(x, 99, func(d *api.Def) { d.Fields = d.Fields[:1] })}, result{Err: api.ErrMerge})
	}
}
