package ctf_test

import (
	"bytes"
	"math/big"
	"regexp"
	"slices"
	"strings"

	"tapline/api"
)

// The model says what the chapter says, one definition or one pair at a time; it shares nothing with the package.

// uses has for each kind what it uses: the Name, the Int, Ref, N, and the Fields.
var uses = map[int]string{api.DfInt: "name int", api.DfPtr: "ref", api.DfArray: "ref n", api.DfStruct: "name n fields", api.DfEnum: "name fields", api.DfAlias: "name ref"}

var nameForm = regexp.MustCompile(`\A[A-Za-z_][A-Za-z0-9_]{0,30}\z`)

func modelNamed(d api.Def) bool { return strings.Contains(uses[d.Kind], "name") }

// leads returns the types to which a definition leads: Ref, and Type of members.
func leads(d api.Def) []int {
	var out []int
	if strings.Contains(uses[d.Kind], "ref") {
		out = append(out, d.Ref)
	}
	for _, f := range d.Fields {
		if d.Kind == api.DfStruct {
			out = append(out, f.Type)
		}
	}
	return out
}

// contains returns the types that a definition contains.
func contains(d api.Def) []int {
	if d.Kind == api.DfPtr {
		return nil
	}
	return leads(d)
}

// behind returns the types that are reached from i by one or more steps.
func behind(t api.Types, i int, step func(d api.Def) []int) map[int]bool {
	out := map[int]bool{}
	for work := step(t.Defs[i]); len(work) > 0; work = work[1:] {
		if !out[work[0]] {
			out[work[0]] = true
			work = append(slices.Clone(work), step(t.Defs[work[0]])...)
		}
	}
	return out
}

// modelDef reports whether a definition, one of n, is as in the table, and refers to definitions.
func modelDef(d api.Def, n int) bool {
	use := uses[d.Kind]
	unused := map[string]bool{"name": d.Name == "", "int": d.Int == api.Int{}, "ref": d.Ref == 0, " n": d.N == 0, "fields": len(d.Fields) == 0}
	for what, zero := range unused {
		if !zero && !strings.Contains(use, what) {
			return false
		}
	}
	switch {
	case use == "", modelNamed(d) && !nameForm.MatchString(d.Name):
		return false
	case d.Kind == api.DfInt && !slices.Contains([]int{1, 2, 4, 8}, d.Int.Size):
		return false
	case strings.Contains(use, " n") && (d.N < 1 || d.N > 512):
		return false
	case strings.Contains(use, "fields") && (len(d.Fields) < 1 || len(d.Fields) > 32):
		return false
	}
	for k, f := range d.Fields {
		if !nameForm.MatchString(f.Name) {
			return false
		}
		for _, g := range d.Fields[:k] {
			if g.Name == f.Name {
				return false
			}
		}
		if d.Kind == api.DfEnum && (f.Type != 0 || f.At < -2147483648 || f.At > 2147483647) {
			return false
		}
	}
	return !slices.ContainsFunc(leads(d), func(i int) bool { return i < 0 || i >= n })
}

// modelCheck reports whether type data is well-formed.
func modelCheck(t api.Types) bool {
	n := len(t.Defs)
	if n > 200 {
		return false
	}
	for i, d := range t.Defs {
		if !modelDef(d, n) {
			return false
		}
		for _, other := range t.Defs[:i] {
			if modelNamed(d) && modelNamed(other) && d.Name == other.Name {
				return false
			}
		}
	}
	for i := range t.Defs {
		if !ends(t, i) || behind(t, i, contains)[i] {
			return false
		}
	}
	for i, d := range t.Defs {
		if modelSize(t, i) > 512 || !membersStand(t, d) {
			return false
		}
	}
	return true
}

// ends reports whether a named definition is reached from i by Ref.
func ends(t api.Types, i int) bool {
	for range len(t.Defs) + 1 {
		if modelNamed(t.Defs[i]) {
			return true
		}
		i = t.Defs[i].Ref
	}
	return false
}

// modelSize returns the size of a type, or a great number if it is too large; no type contains itself.
func modelSize(t api.Types, i int) int {
	const great = 1 << 20
	d := t.Defs[i]
	switch d.Kind {
	case api.DfInt:
		return d.Int.Size
	case api.DfPtr:
		return 8
	case api.DfArray:
		return min(great, d.N*modelSize(t, d.Ref))
	case api.DfEnum:
		return 4
	case api.DfAlias:
		return modelSize(t, d.Ref)
	}
	return d.N
}

func membersStand(t api.Types, d api.Def) bool {
	if d.Kind != api.DfStruct {
		return true
	}
	for k, f := range d.Fields {
		if f.At < 0 || f.At > d.N || f.At+modelSize(t, f.Type) > d.N {
			return false
		}
		for _, g := range d.Fields[:k] {
			if f.At < g.At+modelSize(t, g.Type) {
				return false
			}
		}
	}
	return true
}

func modelText(t api.Types, i int) string {
	d := t.Defs[i]
	switch d.Kind {
	case api.DfPtr:
		return modelText(t, d.Ref) + " *"
	case api.DfArray:
		return modelText(t, d.Ref) + " [" + big.NewInt(int64(d.N)).String() + "]"
	}
	return d.Name
}

func modelTexts(t api.Types) []string {
	var out []string
	for i := range t.Defs {
		out = append(out, modelText(t, i))
	}
	return out
}

func modelLookup(t api.Types, name string) (int, api.Errno) {
	for i, d := range t.Defs {
		if modelNamed(d) && d.Name == name {
			return i, api.OK
		}
	}
	return 0, api.ErrNone
}

func modelResolve(t api.Types, i int) int {
	if t.Defs[i].Kind == api.DfAlias {
		return modelResolve(t, t.Defs[i].Ref)
	}
	return i
}

func modelMember(t api.Types, i int, name string) (api.Field, api.Errno) {
	d := t.Defs[modelResolve(t, i)]
	if d.Kind != api.DfStruct {
		return api.Field{}, api.ErrForm
	}
	for _, f := range d.Fields {
		if f.Name == name {
			return f, api.OK
		}
	}
	return api.Field{}, api.ErrNone
}

func modelPath(t api.Types, i int, path []string) (int, int, api.Errno) {
	if len(path) > 16 {
		return 0, 0, api.ErrLong
	}
	if len(path) == 0 {
		return i, 0, api.OK
	}
	f, e := modelMember(t, i, path[0])
	if e != api.OK {
		return 0, 0, e
	}
	j, at, e := modelPath(t, f.Type, path[1:])
	if e != api.OK {
		return 0, 0, e
	}
	return j, f.At + at, api.OK
}

// modelEqual is the definition of equivalence, of types of well-formed type data.
func modelEqual(t api.Types, i int, u api.Types, j int) bool {
	if modelText(t, i) != modelText(u, j) {
		return false
	}
	reached := behind(t, i, leads)
	reached[i] = true
	for k := range reached {
		d := t.Defs[k]
		if !modelNamed(d) {
			continue
		}
		l, e := modelLookup(u, d.Name)
		if e != api.OK || !likeness(t, d, u, u.Defs[l]) {
			return false
		}
	}
	return true
}

// likeness reports whether two named definitions are the same but for the numbers of types, whose texts are the same.
func likeness(t api.Types, d api.Def, u api.Types, f api.Def) bool {
	if d.Kind != f.Kind || d.Name != f.Name || d.Int != f.Int || d.N != f.N || len(d.Fields) != len(f.Fields) {
		return false
	}
	if d.Kind == api.DfAlias && modelText(t, d.Ref) != modelText(u, f.Ref) {
		return false
	}
	for k, x := range d.Fields {
		y := f.Fields[k]
		if x.Name != y.Name || x.At != y.At || d.Kind == api.DfStruct && modelText(t, x.Type) != modelText(u, y.Type) {
			return false
		}
	}
	return true
}

// mapped returns definitions of t in new memory that lead to other types.
func mapped(d api.Def, to func(i int) int) api.Def {
	d.Fields = slices.Clone(d.Fields)
	if strings.Contains(uses[d.Kind], "ref") {
		d.Ref = to(d.Ref)
	}
	for k := range d.Fields {
		if d.Kind == api.DfStruct {
			d.Fields[k].Type = to(d.Fields[k].Type)
		}
	}
	return d
}

// modelUnion returns the type data that has the definitions of several ones, each text once, and for each of them the new indices.
func modelUnion(l ...api.Types) (api.Types, [][]int) {
	var order []string
	for _, t := range l {
		for _, s := range modelTexts(t) {
			if !slices.Contains(order, s) {
				order = append(order, s)
			}
		}
	}
	out := api.Types{Defs: make([]api.Def, len(order))}
	var lists [][]int
	for _, t := range slices.Backward(l) {
		var to []int
		for i := range t.Defs {
			to = append(to, slices.Index(order, modelText(t, i)))
		}
		// The first one with a text is written last.
		for i := len(t.Defs) - 1; i >= 0; i-- {
			out.Defs[to[i]] = mapped(t.Defs[i], func(k int) int { return to[k] })
		}
		lists = append(lists, to)
	}
	slices.Reverse(lists)
	return out, lists
}

func modelMerge(t, u api.Types) (api.Types, []int, []int, api.Errno) {
	for i, d := range t.Defs {
		if j, e := modelLookup(u, d.Name); modelNamed(d) && e == api.OK && !modelEqual(t, i, u, j) {
			return api.Types{}, nil, nil, api.ErrMerge
		}
	}
	out, to := modelUnion(t, u)
	if len(out.Defs) > 200 {
		return api.Types{}, nil, nil, api.ErrLong
	}
	return out, to[0], to[1], api.OK
}

func modelTrim(t api.Types, names []string) (api.Types, []int, api.Errno) {
	if len(names) > 200 {
		return api.Types{}, nil, api.ErrLong
	}
	keep := map[int]bool{}
	for _, name := range names {
		i, e := modelLookup(t, name)
		if e != api.OK {
			return api.Types{}, nil, e
		}
		keep[i] = true
		for k := range behind(t, i, leads) {
			keep[k] = true
		}
	}
	var to []int
	n := 0
	for i := range t.Defs {
		if !keep[i] {
			to = append(to, -1)
			continue
		}
		to = append(to, n)
		n++
	}
	var out api.Types
	for i, d := range t.Defs {
		if keep[i] {
			out.Defs = append(out.Defs, mapped(d, func(k int) int { return to[k] }))
		}
	}
	return out, to, api.OK
}

// modelInt returns the bytes of an integer, by integers without bounds.
func modelInt(x int) []byte {
	n := big.NewInt(int64(x))
	n.Mul(n, big.NewInt(2))
	if x < 0 {
		n.Neg(n).Sub(n, big.NewInt(1))
	}
	var out []byte
	for base := big.NewInt(128); ; {
		low := new(big.Int)
		n.QuoRem(n, base, low)
		if n.Sign() == 0 {
			return append(out, byte(low.Int64()))
		}
		out = append(out, byte(low.Int64()+128))
	}
}

func modelString(s string) []byte { return append(modelInt(len(s)), s...) }

// modelEncode returns the bytes of type data, well-formed or not.
func modelEncode(t api.Types) []byte {
	out := append([]byte{67, 84, 70, 1}, modelInt(len(t.Defs))...)
	add := func(parts ...[]byte) {
		for _, p := range parts {
			out = append(out, p...)
		}
	}
	for _, d := range t.Defs {
		signed := byte(0)
		if d.Int.Signed {
			signed = 1
		}
		add(modelInt(d.Kind), modelString(d.Name), modelInt(d.Int.Size), []byte{signed}, modelInt(d.Ref), modelInt(d.N), modelInt(len(d.Fields)))
		for _, f := range d.Fields {
			add(modelString(f.Name), modelInt(f.Type), modelInt(f.At))
		}
	}
	return out
}

// reader reads bytes, and minds nothing but what cannot be read at all.
type reader struct {
	rest []byte
	bad  bool
}

func (r *reader) byte() byte {
	if len(r.rest) == 0 {
		r.bad = true
		return 0
	}
	b := r.rest[0]
	r.rest = r.rest[1:]
	return b
}

func (r *reader) int() int {
	n, unit := new(big.Int), big.NewInt(1)
	for {
		b := r.byte()
		n.Add(n, new(big.Int).Mul(unit, big.NewInt(int64(b%128))))
		unit.Mul(unit, big.NewInt(128))
		if b < 128 {
			break
		}
	}
	if n.Bit(0) == 1 {
		n.Add(n, big.NewInt(1)).Neg(n)
	}
	n.Quo(n, big.NewInt(2))
	r.bad = r.bad || !n.IsInt64()
	return int(n.Int64())
}

func (r *reader) string() string {
	n := r.int()
	if n < 0 || n > len(r.rest) {
		r.bad = true
		return ""
	}
	s := string(r.rest[:n])
	r.rest = r.rest[n:]
	return s
}

func (r *reader) def() api.Def {
	d := api.Def{}
	d.Kind = r.int()
	d.Name = r.string()
	d.Int.Size = r.int()
	d.Int.Signed = r.byte() != 0
	d.Ref, d.N = r.int(), r.int()
	for n := r.int(); n > 0 && !r.bad; n-- {
		f := api.Field{Name: r.string()}
		f.Type, f.At = r.int(), r.int()
		d.Fields = append(d.Fields, f)
	}
	return d
}

// modelDecode returns the type data whose bytes are b: what can be read has these bytes.
func modelDecode(b []byte) (api.Types, api.Errno) {
	r := &reader{rest: b[min(4, len(b)):]}
	var t api.Types
	for n := r.int(); n > 0 && !r.bad; n-- {
		t.Defs = append(t.Defs, r.def())
	}
	if r.bad || !bytes.Equal(modelEncode(t), b) {
		return api.Types{}, api.ErrBytes
	}
	if !modelCheck(t) {
		return api.Types{}, api.ErrTypes
	}
	return t, api.OK
}
