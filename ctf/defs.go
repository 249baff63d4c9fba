package ctf

import (
	"math"
	"slices"

	"tapline/api"
	"tapline/bits"
)

// named reports whether a definition of some kind has a name.
func named(d api.Def) bool {
	return d.Kind != api.DfPtr && d.Kind != api.DfArray
}

// places returns where a definition has types: it leads to these.
func places(d *api.Def) []*int {
	switch d.Kind {
	case api.DfPtr, api.DfArray, api.DfAlias:
		return []*int{&d.Ref}
	case api.DfStruct:
		out := make([]*int, len(d.Fields))
		for k := range d.Fields {
			out[k] = &d.Fields[k].Type
		}
		return out
	}
	return nil
}

// links returns the types to which a definition leads.
func links(d api.Def) []int {
	list := places(&d)
	out := make([]int, len(list))
	for k, p := range list {
		out[k] = *p
	}
	return out
}

// contents returns the types that a definition contains.
func contents(d api.Def) []int {
	if d.Kind == api.DfPtr {
		return nil
	}
	return links(d)
}

// stem returns the type whose text the text of an anonymous definition begins with.
func stem(d api.Def) []int {
	if named(d) {
		return nil
	}
	return links(d)
}

// renumbered returns definitions in new memory, which lead to types of other numbers.
func renumbered(defs []api.Def, to func(i int) int) []api.Def {
	out := slices.Clone(defs)
	for i := range out {
		d := &out[i]
		d.Fields = slices.Clone(d.Fields)
		for _, p := range places(d) {
			*p = to(*p)
		}
	}
	return out
}

// sameDef reports whether two definitions are equal.
func sameDef(a, b api.Def) bool {
	return a.Kind == b.Kind && a.Name == b.Name && a.Int == b.Int && a.Ref == b.Ref && a.N == b.N && slices.Equal(a.Fields, b.Fields)
}

// used returns a definition without what its kind does not use.
func used(d api.Def) api.Def {
	switch d.Kind {
	case api.DfInt:
		return api.Def{Kind: d.Kind, Name: d.Name, Int: d.Int}
	case api.DfPtr:
		return api.Def{Kind: d.Kind, Ref: d.Ref}
	case api.DfArray:
		return api.Def{Kind: d.Kind, Ref: d.Ref, N: d.N}
	case api.DfStruct:
		return api.Def{Kind: d.Kind, Name: d.Name, N: d.N, Fields: d.Fields}
	case api.DfEnum:
		return api.Def{Kind: d.Kind, Name: d.Name, Fields: d.Fields}
	case api.DfAlias:
		return api.Def{Kind: d.Kind, Name: d.Name, Ref: d.Ref}
	}
	return api.Def{}
}

// formed reports whether a definition is one of its kind, by itself: its own name and the types to which it leads aside.
func formed(d api.Def) bool {
	if !sameDef(d, used(d)) {
		return false
	}
	switch d.Kind {
	case api.DfInt:
		return bits.Check(d.Int) == api.OK
	case api.DfPtr, api.DfAlias:
		return true
	case api.DfArray:
		return within(d.N, 1, api.MaxSize)
	case api.DfStruct:
		return within(d.N, 1, api.MaxSize) && fieldsNamed(d)
	case api.DfEnum:
		return fieldsNamed(d) && !slices.ContainsFunc(d.Fields, func(f api.Field) bool {
			return f.Type != 0 || !within(f.At, math.MinInt32, math.MaxInt32)
		})
	}
	return false
}

// fieldsNamed reports whether a definition has as many fields as it may have, with names that differ.
func fieldsNamed(d api.Def) bool {
	if !within(len(d.Fields), 1, api.MaxFields) {
		return false
	}
	var names []string
	for _, f := range d.Fields {
		names = append(names, f.Name)
	}
	return differentNames(names)
}

// differentNames reports whether all of some strings are names, and no two of them the same one.
func differentNames(list []string) bool {
	seen := make(map[string]bool, len(list))
	for _, s := range list {
		if !isName(s) || seen[s] {
			return false
		}
		seen[s] = true
	}
	return true
}

// isName reports whether a string is a name.
func isName(s string) bool {
	if !within(len(s), 1, api.MaxName) || isDigit(s[0]) {
		return false
	}
	for k := range len(s) {
		if !isLetter(s[k]) && !isDigit(s[k]) && s[k] != '_' {
			return false
		}
	}
	return true
}

func isLetter(c byte) bool { return 'a' <= c && c <= 'z' || 'A' <= c && c <= 'Z' }

func isDigit(c byte) bool { return '0' <= c && c <= '9' }

// within reports whether a number lies between two others.
func within(n, least, most int) bool { return least <= n && n <= most }
