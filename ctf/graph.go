package ctf

import (
	"slices"
	"strconv"

	"tapline/api"
)

// graph is well-formed type data with the sizes and the texts of its types, and the indices of its names. Its definitions are those of an argument, in which nothing is changed.
type graph struct {
	defs  []api.Def
	sizes []int
	texts []string
	names map[string]int
}

// opened returns the graph of type data; the error is ErrTypes unless it is well-formed.
func opened(t api.Types) (graph, api.Errno) {
	if !defined(t.Defs) {
		return graph{}, api.ErrTypes
	}
	texts, end := textsOf(t.Defs)
	sizes, fit := sizesOf(t.Defs)
	if !end || !fit || !membersFit(t.Defs, sizes) {
		return graph{}, api.ErrTypes
	}
	g := graph{defs: t.Defs, sizes: sizes, texts: texts, names: map[string]int{}}
	for i, d := range t.Defs {
		if named(d) {
			g.names[d.Name] = i
		}
	}
	return g, api.OK
}

// openedAt returns the graph of type data; the error is ErrNone unless i is one of its types.
func openedAt(t api.Types, i int) (graph, api.Errno) {
	g, e := opened(t)
	if e == api.OK && !within(i, 0, len(g.defs)-1) {
		return graph{}, api.ErrNone
	}
	return g, e
}

// defined reports whether there are no more definitions than there may be, each of them is one of its kind, they lead to definitions, and their names differ.
func defined(defs []api.Def) bool {
	if len(defs) > api.MaxDefs {
		return false
	}
	var names []string
	for _, d := range defs {
		if !formed(d) {
			return false
		}
		for _, i := range links(d) {
			if !within(i, 0, len(defs)-1) {
				return false
			}
		}
		if named(d) {
			names = append(names, d.Name)
		}
	}
	return differentNames(names)
}

// walk visits each type that can be reached from some types, once; those to which it leads are visited ahead of it, unless they lead back to it. It reports whether none leads back to itself.
func walk(defs []api.Def, from []int, leads func(d api.Def) []int, visit func(i int)) bool {
	const (
		entered = 1
		visited = 2
	)
	state := make([]int, len(defs))
	straight := true
	var enter func(i int)
	enter = func(i int) {
		if state[i] != 0 {
			straight = straight && state[i] == visited
			return
		}
		state[i] = entered
		for _, j := range leads(defs[i]) {
			enter(j)
		}
		state[i] = visited
		visit(i)
	}
	for _, i := range from {
		enter(i)
	}
	return straight
}

// everyType returns the types of definitions.
func everyType(defs []api.Def) []int {
	out := make([]int, len(defs))
	for i := range out {
		out[i] = i
	}
	return out
}

// textsOf returns the texts of types, and whether the anonymous ones end.
func textsOf(defs []api.Def) ([]string, bool) {
	texts := make([]string, len(defs))
	end := walk(defs, everyType(defs), stem, func(i int) {
		switch d := defs[i]; d.Kind {
		case api.DfPtr:
			texts[i] = texts[d.Ref] + " *"
		case api.DfArray:
			texts[i] = texts[d.Ref] + " [" + strconv.Itoa(d.N) + "]"
		default:
			texts[i] = d.Name
		}
	})
	return texts, end
}

// sizesOf returns the sizes of types, and whether each has one: none contains itself, or is too large.
func sizesOf(defs []api.Def) ([]int, bool) {
	sizes := make([]int, len(defs))
	fit := walk(defs, everyType(defs), contents, func(i int) {
		// No more than that is told of what is too large: a product of many sizes would be no int.
		sizes[i] = min(sizeOf(defs[i], sizes), api.MaxSize+1)
	})
	return sizes, fit && !slices.Contains(sizes, api.MaxSize+1)
}

// sizeOf returns the size of a type by the sizes of what it contains.
func sizeOf(d api.Def, sizes []int) int {
	switch d.Kind {
	case api.DfInt:
		return d.Int.Size
	case api.DfPtr:
		return 8
	case api.DfArray:
		return d.N * sizes[d.Ref]
	case api.DfEnum:
		return 4
	case api.DfAlias:
		return sizes[d.Ref]
	}
	return d.N
}

// membersFit reports whether the members of each structure are where they may be.
func membersFit(defs []api.Def, sizes []int) bool {
	return !slices.ContainsFunc(defs, func(d api.Def) bool {
		return d.Kind == api.DfStruct && !inPlace(d, sizes)
	})
}

// inPlace reports whether the members of a structure are in order, do not overlap, and lie within it.
func inPlace(d api.Def, sizes []int) bool {
	end := 0 // of the member ahead
	for _, f := range d.Fields {
		if !within(f.At, end, d.N) {
			return false
		}
		end = f.At + sizes[f.Type]
	}
	return end <= d.N
}
