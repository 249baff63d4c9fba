package ctf_test

import (
	"fmt"
	"reflect"
	"slices"
	"testing"

	"tapline/api"
	"tapline/ctf"
)

// given are arguments; each function takes some of them.
type given struct {
	T, U        api.Types
	I, J        int
	Name        string
	Path, Names []string
	B           []byte
}

// result are results; each function has some of them.
type result struct {
	T     api.Types
	A, B  []int
	N, At int
	S     string
	F     api.Field
	Bytes []byte
	Is    bool
	Err   api.Errno
}

// call is a function, and what the model says of it.
type call struct {
	name  string
	make  func(g given) result
	model func(g given) result
}

// formed returns what f returns if T is well-formed, otherwise ErrTypes alone.
func formed(f func(g given) result) func(g given) result {
	return func(g given) result {
		if !modelCheck(g.T) {
			return result{Err: api.ErrTypes}
		}
		return f(g)
	}
}

// typed returns what f returns if I is a type of well-formed type data, otherwise an error alone.
func typed(f func(g given) result) func(g given) result {
	return formed(func(g given) result {
		if g.I < 0 || g.I >= len(g.T.Defs) {
			return result{Err: api.ErrNone}
		}
		return f(g)
	})
}

// lookups are the functions that look something up in type data.
func lookups() []call {
	return []call{
		{"Check", func(g given) result { return result{Err: ctf.Check(g.T)} }, formed(func(given) result { return result{} })},
		{"Size", func(g given) (r result) {
			r.N, r.Err = ctf.Size(g.T, g.I)
			return
		}, typed(func(g given) result { return result{N: modelSize(g.T, g.I)} })},
		{"Text", func(g given) (r result) {
			r.S, r.Err = ctf.Text(g.T, g.I)
			return
		}, typed(func(g given) result { return result{S: modelText(g.T, g.I)} })},
		{"Lookup", func(g given) (r result) {
			r.N, r.Err = ctf.Lookup(g.T, g.Name)
			return
		}, formed(func(g given) (r result) {
			r.N, r.Err = modelLookup(g.T, g.Name)
			return
		})},
		{"Resolve", func(g given) (r result) {
			r.N, r.Err = ctf.Resolve(g.T, g.I)
			return
		}, typed(func(g given) result { return result{N: modelResolve(g.T, g.I)} })},
		{"Member", func(g given) (r result) {
			r.F, r.Err = ctf.Member(g.T, g.I, g.Name)
			return
		}, typed(func(g given) (r result) {
			r.F, r.Err = modelMember(g.T, g.I, g.Name)
			return
		})},
		{"Path", func(g given) (r result) {
			r.N, r.At, r.Err = ctf.Path(g.T, g.I, g.Path)
			return
		}, typed(func(g given) (r result) {
			r.N, r.At, r.Err = modelPath(g.T, g.I, g.Path)
			return
		})},
	}
}

// changes are the functions that return type data, or its bytes.
func changes() []call {
	return []call{
		{"Unique", func(g given) (r result) {
			r.T, r.A, r.Err = ctf.Unique(g.T)
			return
		}, formed(func(g given) result {
			t, to := modelUnion(g.T)
			return result{T: t, A: to[0]}
		})},
		{"Merge", func(g given) (r result) {
			r.T, r.A, r.B, r.Err = ctf.Merge(g.T, g.U)
			return
		}, formed(func(g given) (r result) {
			if !modelCheck(g.U) {
				return result{Err: api.ErrTypes}
			}
			r.T, r.A, r.B, r.Err = modelMerge(g.T, g.U)
			return
		})},
		{"Trim", func(g given) (r result) {
			r.T, r.A, r.Err = ctf.Trim(g.T, g.Names)
			return
		}, formed(func(g given) (r result) {
			r.T, r.A, r.Err = modelTrim(g.T, g.Names)
			return
		})},
		{"Encode", func(g given) (r result) {
			r.Bytes, r.Err = ctf.Encode(g.T)
			return
		}, formed(func(g given) result { return result{Bytes: modelEncode(g.T)} })},
	}
}

// others are the functions without an error of T.
func others() []call {
	return []call{
		{"Equal", func(g given) result { return result{Is: ctf.Equal(g.T, g.I, g.U, g.J)} }, func(g given) result {
			valid := modelCheck(g.T) && modelCheck(g.U) && g.I >= 0 && g.I < len(g.T.Defs) && g.J >= 0 && g.J < len(g.U.Defs)
			return result{Is: valid && modelEqual(g.T, g.I, g.U, g.J)}
		}},
		{"Same", func(g given) result { return result{Is: ctf.Same(g.T, g.U)} }, func(g given) result { return result{Is: equal(g.T, g.U)} }},
		{"Decode", func(g given) (r result) {
			r.T, r.Err = ctf.Decode(g.B)
			return
		}, func(g given) (r result) {
			r.T, r.Err = modelDecode(g.B)
			return
		}},
	}
}

// allCalls are all functions.
func allCalls() []call { return slices.Concat(lookups(), changes(), others()) }

// compare makes a call with arguments that have spare room, and expects what the model says, in new memory, and the arguments as they were.
func (c call) compare(t *testing.T, g given) result {
	t.Helper()
	args := roomy(g)
	before := whole(args)
	out := c.make(args)
	if want := c.model(g); !equalResults(out, want) {
		t.Fatalf("%s of %s\nis %s\nwant %s", c.name, g.show(), out.show(), want.show())
	}
	if !untouched(args, before) {
		t.Fatalf("%s changes its arguments: %s", c.name, g.show())
	}
	kept := cloneResult(out)
	// Writing to the results changes neither the arguments nor another result.
	if own := scribble(out); !own || !untouched(args, before) {
		t.Fatalf("%s shares memory: %s", c.name, g.show())
	}
	return kept
}

// cloneResult returns results in new memory.
func cloneResult(r result) result {
	r.T = clone(r.T)
	r.A, r.B, r.Bytes = slices.Clone(r.A), slices.Clone(r.B), slices.Clone(r.Bytes)
	return r
}

// makes makes a call by its name, and expects the results.
func makes(t *testing.T, name string, g given, want result) result {
	t.Helper()
	for _, c := range allCalls() {
		if c.name != name {
			continue
		}
		out := c.compare(t, g)
		if !equalResults(out, want) {
			t.Errorf("%s of %s\nis %s\nwant %s", name, g.show(), out.show(), want.show())
		}
		return out
	}
	panic("no function " + name)
}

// compareAll makes each call, and returns their errors by name.
func compareAll(t *testing.T, g given) map[string]api.Errno {
	t.Helper()
	out := map[string]api.Errno{}
	for _, c := range allCalls() {
		out[c.name] = c.compare(t, g).Err
	}
	return out
}

// clone returns type data in new memory.
func clone(t api.Types) api.Types {
	out := api.Types{Defs: slices.Clone(t.Defs)}
	for i := range out.Defs {
		out.Defs[i].Fields = slices.Clone(out.Defs[i].Fields)
	}
	return out
}

// spare returns a list in new memory, with spare room that has other elements.
func spare[T any](l []T, x T) []T {
	return append(slices.Clone(l), x, x)[:len(l)]
}

// roomyTypes returns type data in new memory with spare room behind each list.
func roomyTypes(t api.Types) api.Types {
	junk := field("junk", 77, 77)
	out := api.Types{Defs: spare(t.Defs, api.Def{Kind: 77, Name: "junk", Fields: []api.Field{junk}})}
	for i := range out.Defs {
		out.Defs[i].Fields = spare(out.Defs[i].Fields, junk)
	}
	return out
}

// roomy returns arguments in new memory with spare room behind each list.
func roomy(g given) given {
	g.T, g.U = roomyTypes(g.T), roomyTypes(g.U)
	g.Path, g.Names, g.B = spare(g.Path, "junk"), spare(g.Names, "junk"), spare(g.B, 77)
	return g
}

// whole returns arguments in new memory, with the spare room of each list as a part of it.
func whole(g given) given {
	g.T, g.U = wholeTypes(g.T), wholeTypes(g.U)
	g.Path, g.Names, g.B = wholeList(g.Path), wholeList(g.Names), wholeList(g.B)
	return g
}

func wholeTypes(t api.Types) api.Types {
	out := api.Types{Defs: wholeList(t.Defs)}
	for i := range out.Defs {
		out.Defs[i].Fields = wholeList(out.Defs[i].Fields)
	}
	return out
}

func wholeList[T any](l []T) []T { return slices.Clone(l[:cap(l)]) }

// untouched reports whether arguments with spare room are as they were.
func untouched(g, before given) bool { return reflect.DeepEqual(whole(g), before) }

// scribble writes to all lists of a result, with their spare room, and reports whether no two of them share memory.
func scribble(r result) bool {
	var checks []func() bool
	fill(&checks, r.A, 1001)
	fill(&checks, r.B, 1002)
	fill(&checks, r.Bytes, 203)
	for i, d := range r.T.Defs {
		fill(&checks, d.Fields, field("other", i, 1003))
	}
	fill(&checks, r.T.Defs, api.Def{Kind: 1004})
	return !slices.ContainsFunc(checks, func(check func() bool) bool { return !check() })
}

// fill writes x to a whole list, and adds a check that nothing else was written there.
func fill[T any](checks *[]func() bool, l []T, x T) {
	l = l[:cap(l)]
	for i := range l {
		l[i] = x
	}
	*checks = append(*checks, func() bool {
		return !slices.ContainsFunc(l, func(y T) bool { return !reflect.DeepEqual(x, y) })
	})
}

// plain returns type data with nil in place of each empty list.
func plain(t api.Types) api.Types {
	out := clone(t)
	if len(out.Defs) == 0 {
		return api.Types{}
	}
	for i := range out.Defs {
		if len(out.Defs[i].Fields) == 0 {
			out.Defs[i].Fields = nil
		}
	}
	return out
}

// equal compares type data without the package; nil and empty lists are the same.
func equal(a, b api.Types) bool { return reflect.DeepEqual(plain(a), plain(b)) }

// equalResults compares results; nil and empty lists are the same.
func equalResults(a, b result) bool {
	lists := equal(a.T, b.T) && slices.Equal(a.A, b.A) && slices.Equal(a.B, b.B) && slices.Equal(a.Bytes, b.Bytes)
	return lists && a.N == b.N && a.At == b.At && a.S == b.S && a.F == b.F && a.Is == b.Is && a.Err == b.Err
}

func (g given) show() string {
	return fmt.Sprintf("i %d, j %d, name %q, path %q, names %q, bytes %v, t %s u %s", g.I, g.J, g.Name, g.Path, g.Names, g.B, show(g.T), show(g.U))
}

func (r result) show() string {
	return fmt.Sprintf("error %d: %d, %d, %q, %v, %v, indices %v, %v, bytes %v, types %s", r.Err, r.N, r.At, r.S, r.F, r.Is, r.A, r.B, r.Bytes, show(r.T))
}
