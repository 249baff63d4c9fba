package ctf

import (
	"slices"

	"tapline/api"
)

// lookup returns the index of the definition with a name.
func (g graph) lookup(name string) (int, api.Errno) {
	i, is := g.names[name]
	if !is {
		return 0, api.ErrNone
	}
	return i, api.OK
}

// resolved returns the type for which a type is another name.
func (g graph) resolved(i int) int {
	for g.defs[i].Kind == api.DfAlias {
		i = g.defs[i].Ref
	}
	return i
}

// member returns the member of a structure, or of another name for it, with a name.
func (g graph) member(i int, name string) (api.Field, api.Errno) {
	d := g.defs[g.resolved(i)]
	if d.Kind != api.DfStruct {
		return api.Field{}, api.ErrForm
	}
	k := slices.IndexFunc(d.Fields, func(f api.Field) bool { return f.Name == name })
	if k < 0 {
		return api.Field{}, api.ErrNone
	}
	return d.Fields[k], api.OK
}
