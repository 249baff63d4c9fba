package insn

import (
	"iter"
	"strings"

	"tapline/api"
)

// Assemble returns the code of an assembly text whose first instruction has the address at, its symbols, and the line of an error.
func Assemble(text string, at int64) (code []byte, syms []api.Sym, line int, e api.Errno) {
	if len(text) > api.MaxText {
		return nil, nil, 0, api.ErrLong
	}
	if at < 0 || at > api.MaxAt {
		return nil, nil, 0, api.ErrArg
	}
	a := assembler{at: at, labels: map[string]int{}}
	defer func() {
		if f, ok := recover().(failure); ok {
			code, syms, line, e = nil, nil, a.line, f.err
		}
	}()
	for number, s := range lines(text) {
		a.line = number
		a.add(s)
	}
	return a.code(), a.symbols(), 0, api.OK
}

// lines returns the lines of a text without their comments, and their numbers, from 1 on.
func lines(text string) iter.Seq2[int, string] {
	return func(yield func(int, string) bool) {
		rest, more := text, true
		for number := 1; more; number++ {
			var line string
			line, rest, more = strings.Cut(rest, "\n")
			line, _, _ = strings.Cut(line, ";")
			if !yield(number, line) {
				return
			}
		}
	}
}

// statement reads a line of an assembly text.
func (r *reader) statement() {
	r.definition()
	r.blanks()
	switch {
	case r.rest == "":
	case r.defined == "" && r.accept(".func"):
		r.gap()
		r.defined = r.name()
		r.directive = true
		r.end()
	default:
		r.instruction()
	}
}

// definition reads the label that stands at the beginning of a line, if there is one.
func (r *reader) definition() {
	ahead := *r
	ahead.blanks()
	name := ahead.take(isNameByte)
	ahead.blanks()
	if !ahead.accept(":") {
		return
	}
	if !isName(name) {
		fail(api.ErrAsm)
	}
	r.rest = ahead.rest
	r.defined = name
}

// placed is an instruction of a text: its line, the offset behind it, and the label that is its target (empty: none).
type placed struct {
	line   int
	insn   api.Insn
	next   int
	target string
}

// assembler is what is known of a text up to the current line. Labels are kept as offsets: nothing but the symbols depends on the address of the text.
type assembler struct {
	at     int64
	line   int
	size   int
	labels map[string]int
	list   []placed
	syms   []api.Sym
}

// add takes a line up into the text.
func (a *assembler) add(line string) {
	r := reader{rest: line, labels: true}
	r.statement()
	if r.defined != "" {
		a.define(r.defined)
	}
	if r.directive {
		a.syms = append(a.syms, api.Sym{Name: r.defined, At: a.at + int64(a.size)})
	}
	if o, ok := withOp(r.insn.Op); ok {
		a.size += layouts[o.layout].length()
		a.list = append(a.list, placed{line: a.line, insn: r.insn, next: a.size, target: r.target})
	}
	if a.size > api.MaxCode || len(a.syms) > api.MaxSyms {
		fail(api.ErrLong)
	}
}

func (a *assembler) define(label string) {
	if _, ok := a.labels[label]; ok {
		fail(api.ErrLabel)
	}
	a.labels[label] = a.size
}

// code returns the encodings of the text's instructions.
func (a *assembler) code() []byte {
	var out []byte
	for _, p := range a.list {
		a.line = p.line
		if p.target != "" {
			to, ok := a.labels[p.target]
			if !ok {
				fail(api.ErrLabel)
			}
			p.insn.Imm = int64(to - p.next)
		}
		b, e := Encode(p.insn)
		if e != api.OK {
			fail(api.ErrReach)
		}
		out = append(out, b...)
	}
	return out
}

// symbols returns the text's symbols, with their sizes.
func (a *assembler) symbols() []api.Sym {
	for i := range a.syms {
		a.syms[i].Size = extent(a.syms, i, a.at+int64(a.size))
	}
	return a.syms
}

// extent returns the size that symbol number i has, if the code ends at the address end.
func extent(syms []api.Sym, i int, end int64) int64 {
	if i+1 < len(syms) {
		end = syms[i+1].At
	}
	return end - syms[i].At
}

// Disassemble returns an assembly text of code at an address, with symbols.
func Disassemble(b []byte, at int64, syms []api.Sym) (string, api.Errno) {
	if len(syms) > api.MaxSyms {
		return "", api.ErrLong
	}
	if at < 0 || at > api.MaxAt {
		return "", api.ErrArg
	}
	list, offsets, e := Sweep(b)
	if e != api.OK {
		return "", e
	}
	offsets = append(offsets, len(b))
	if !named(syms) || !laid(syms, at, offsets) {
		return "", api.ErrForm
	}
	var out strings.Builder
	for i, offset := range offsets {
		for len(syms) > 0 && syms[0].At == at+int64(offset) {
			out.WriteString(".func " + syms[0].Name + "\n")
			syms = syms[1:]
		}
		if i < len(list) {
			line, _ := Print(list[i])
			out.WriteString(line + "\n")
		}
	}
	return out.String(), api.OK
}

// named reports whether the names of symbols are names, all different.
func named(syms []api.Sym) bool {
	seen := map[string]bool{}
	for _, s := range syms {
		if !isName(s.Name) || seen[s.Name] {
			return false
		}
		seen[s.Name] = true
	}
	return true
}

// laid reports whether symbols lie in order at the offsets of code at an address, the last one of which is the code's end, and whether each has the size that follows.
func laid(syms []api.Sym, at int64, offsets []int) bool {
	next := 0
	for i, s := range syms {
		for next < len(offsets) && at+int64(offsets[next]) < s.At {
			next++
		}
		if next == len(offsets) || at+int64(offsets[next]) != s.At {
			return false
		}
		if s.Size != extent(syms, i, at+int64(offsets[len(offsets)-1])) {
			return false
		}
	}
	return true
}
