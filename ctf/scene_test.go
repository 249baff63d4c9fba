package ctf_test

import (
	"fmt"
	"strings"

	"tapline/api"
)

// The definitions and the fields of the tests.

func num(name string, size int, signed bool) api.Def {
	return api.Def{Kind: api.DfInt, Name: name, Int: api.Int{Size: size, Signed: signed}}
}

func ptr(to int) api.Def { return api.Def{Kind: api.DfPtr, Ref: to} }

func arr(of, n int) api.Def { return api.Def{Kind: api.DfArray, Ref: of, N: n} }

func rec(name string, n int, fields ...api.Field) api.Def {
	return api.Def{Kind: api.DfStruct, Name: name, N: n, Fields: fields}
}

func enum(name string, fields ...api.Field) api.Def {
	return api.Def{Kind: api.DfEnum, Name: name, Fields: fields}
}

func alias(name string, of int) api.Def { return api.Def{Kind: api.DfAlias, Name: name, Ref: of} }

func field(name string, i, at int) api.Field { return api.Field{Name: name, Type: i, At: at} }

func value(name string, v int) api.Field { return api.Field{Name: name, At: v} }

func data(defs ...api.Def) api.Types { return api.Types{Defs: defs} }

// with returns type data with further definitions behind its own.
func with(t api.Types, defs ...api.Def) api.Types {
	return api.Types{Defs: append(clone(t).Defs, defs...)}
}

// changed returns type data with a change of one definition.
func changed(t api.Types, i int, change func(d *api.Def)) api.Types {
	out := clone(t)
	change(&out.Defs[i])
	return out
}

// example is the type data of the chapter's examples.
func example() api.Types {
	return data(
		num("int32", 4, true),
		rec("thread_t", 24, field("t_tid", 0, 0), field("t_next", 2, 8), field("t_name", 3, 16)),
		ptr(1), arr(4, 8), num("char", 1, true),
	)
}

// The types of rich.
const (
	thrT = iota
	procPtr
	charArr
	threadT
	thrPtr
	stateE
	procT
	thrArr
	int32T
	charT
	arrPtr
	ptrArr
	ptrPtr
	lockT
	richEnd
)

// rich is type data with each kind of definition, in no order: structures that point to each other, an alias ahead of what it stands for, and anonymous types of anonymous types.
func rich() api.Types {
	return data(
		alias("thr_t", threadT),
		ptr(procT),
		arr(charT, 8),
		rec("thread_t", 48, field("t_tid", int32T, 0), field("t_next", thrPtr, 8), field("t_proc", procPtr, 16), field("t_state", stateE, 24), field("t_name", charArr, 28), field("t_flag", charT, 40)),
		ptr(thrT),
		enum("state_e", value("RUN", 1), value("SLEEP", -2), value("ZERO", 0)),
		rec("proc_t", 512, field("p_pid", int32T, 4), field("p_first", thrPtr, 8), field("p_main", threadT, 16), field("p_all", thrArr, 64), field("p_lock", lockT, 496), field("p_end", charT, 511)),
		arr(thrT, 9),
		num("int32", 4, true),
		num("char", 1, true),
		ptr(charArr),
		arr(arrPtr, 2),
		ptr(arrPtr),
		rec("lock_t", 8, field("l_word", int32T, 4)),
	)
}

// chain is type data in which s0 is a structure whose member m is s1, and so on up to sN, which is a structure with the member m of the type char; each member is at 1. Every second one is an alias of a structure.
func chain(n int) api.Types {
	out := data(num("char", 1, false))
	inner := 0
	for k := n; k >= 0; k-- {
		out.Defs = append(out.Defs, rec(fmt.Sprint("s", k), 2+n-k, field("m", inner, 1)))
		inner = len(out.Defs) - 1
		if k%2 == 1 {
			out.Defs = append(out.Defs, alias(fmt.Sprint("a", k), inner))
			inner++
		}
	}
	return out
}

// ladder is type data with n structures, each of which has several pointers to the next one, or to the first one: there are more ways through it than can be gone.
func ladder(n, pointers int) api.Types {
	var out api.Types
	for k := range n {
		d := rec(fmt.Sprint("s", k), 8*pointers)
		for p := range pointers {
			d.Fields = append(d.Fields, field(fmt.Sprint("p", p), n+(k+1)%n, 8*p))
		}
		out.Defs = append(out.Defs, d)
	}
	for k := range n {
		out.Defs = append(out.Defs, ptr(k))
	}
	return out
}

// many is type data with n integers, whose names begin with a letter.
func many(letter string, n int) api.Types {
	var out api.Types
	for i := range n {
		out.Defs = append(out.Defs, num(fmt.Sprint(letter, i), 1<<(i%4), i%3 == 0))
	}
	return out
}

// fields returns n fields, each of which is so far behind the one ahead of it.
func fields(n, step int) []api.Field {
	var out []api.Field
	for i := range n {
		out = append(out, field(fmt.Sprint("f", i), 0, i*step))
	}
	return out
}

// long returns a name of n bytes.
func long(n int) string { return strings.Repeat("x", n) }

// same returns n times the same string.
func same(s string, n int) []string {
	return strings.Fields(strings.Repeat(s+" ", n))
}

// show writes type data, a definition a line.
func show(t api.Types) string {
	var out strings.Builder
	for i, d := range t.Defs {
		fmt.Fprintf(&out, "\n%d: kind %d %q int %v ref %d n %d %v", i, d.Kind, d.Name, d.Int, d.Ref, d.N, d.Fields)
	}
	return out.String() + "\n"
}
