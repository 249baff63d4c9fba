package ctf

import (
	"slices"

	"tapline/api"
)

// linkTexts returns the texts of the types to which a type leads.
func (g graph) linkTexts(i int) []string {
	var out []string
	for _, j := range links(g.defs[i]) {
		out = append(out, g.texts[j])
	}
	return out
}

// alike reports whether the other graph has a definition with the name of the named type i, and this is the same one, where types are told by their texts.
func (g graph) alike(i int, h graph) bool {
	j, e := h.lookup(g.defs[i].Name)
	if e != api.OK {
		return false
	}
	pair := renumbered([]api.Def{g.defs[i], h.defs[j]}, func(int) int { return 0 })
	return sameDef(pair[0], pair[1]) && slices.Equal(g.linkTexts(i), h.linkTexts(j))
}

// equivalent reports whether the type i is equivalent to the type j of another graph.
func (g graph) equivalent(i int, h graph, j int) bool {
	same := g.texts[i] == h.texts[j]
	walk(g.defs, []int{i}, links, func(k int) {
		same = same && (!named(g.defs[k]) || g.alike(k, h))
	})
	return same
}

// agrees reports whether the definitions that have one name in both graphs are equivalent. They are if all of them are alike: what two alike definitions lead to has the same texts, so that it has the same names in both graphs, and is alike too.
func (g graph) agrees(h graph) bool {
	for i, d := range g.defs {
		// An anonymous definition has no name that could be found.
		if _, e := h.lookup(d.Name); e == api.OK && !g.alike(i, h) {
			return false
		}
	}
	return true
}

// distinct returns the first definition with each text, and for each definition the new index of its text.
func distinct(defs []api.Def, texts []string) ([]api.Def, []int) {
	var kept []api.Def
	at := map[string]int{}
	to := make([]int, len(defs))
	for i, text := range texts {
		if _, is := at[text]; !is {
			at[text] = len(kept)
			kept = append(kept, defs[i])
		}
		to[i] = at[text]
	}
	return renumbered(kept, func(i int) int { return to[i] }), to
}

// reached returns the definitions that can be reached from some types, and for each definition its new index, or -1.
func (g graph) reached(from []int) ([]api.Def, []int) {
	to := slices.Repeat([]int{-1}, len(g.defs))
	walk(g.defs, from, links, func(i int) { to[i] = i })
	var kept []api.Def
	for i, d := range g.defs {
		if to[i] >= 0 {
			to[i] = len(kept)
			kept = append(kept, d)
		}
	}
	return renumbered(kept, func(i int) int { return to[i] }), to
}
