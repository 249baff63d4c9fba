package insn_test

import (
	"math"
	"math/big"
	"math/rand"
	"regexp"
	"slices"
	"strings"

	"tapline/api"
)

// The model says what the chapter says, with the chapter's table, regular expressions and integers that have no bounds; it shares nothing with the package.

// row is a row of the chapter's table. A form has the operands in the order of the line: the registers A and B, a number N, an address M, a register in brackets X, a target T.
type row struct {
	op          int
	name        string
	form        string
	bytes       int // of Imm
	least, most int64
}

var rows = []row{
	{api.InNop, "nop", "", 0, 0, 0},
	{api.InMove, "move", "AB", 0, 0, 0},
	{api.InSet, "set", "AN", 10, math.MinInt64, math.MaxInt64},
	{api.InLit, "lit", "AN", 1, -64, 63},
	{api.InAdd, "add", "AB", 0, 0, 0},
	{api.InSub, "sub", "AB", 0, 0, 0},
	{api.InMul, "mul", "AB", 0, 0, 0},
	{api.InDiv, "div", "AB", 0, 0, 0},
	{api.InMod, "mod", "AB", 0, 0, 0},
	{api.InAnd, "and", "AB", 0, 0, 0},
	{api.InOr, "or", "AB", 0, 0, 0},
	{api.InXor, "xor", "AB", 0, 0, 0},
	{api.InShl, "shl", "AB", 0, 0, 0},
	{api.InShr, "shr", "AB", 0, 0, 0},
	{api.InSar, "sar", "AB", 0, 0, 0},
	{api.InInc, "inc", "AN", 1, -64, 63},
	{api.InLoad1, "load1", "AM", 1, -64, 63},
	{api.InLoad8, "load8", "AM", 1, -64, 63},
	{api.InStore1, "store1", "MA", 1, -64, 63},
	{api.InStore8, "store8", "MA", 1, -64, 63},
	{api.InBeq, "beq", "ABT", 1, -64, 63},
	{api.InBne, "bne", "ABT", 1, -64, 63},
	{api.InBlt, "blt", "ABT", 1, -64, 63},
	{api.InBge, "bge", "ABT", 1, -64, 63},
	{api.InJump, "jump", "T", 2, -8192, 8191},
	{api.InJumpR, "jumpr", "A", 0, 0, 0},
	{api.InCall, "call", "T", 2, -8192, 8191},
	{api.InCallR, "callr", "A", 0, 0, 0},
	{api.InRet, "ret", "", 0, 0, 0},
	{api.InPush, "push", "A", 0, 0, 0},
	{api.InPop, "pop", "A", 0, 0, 0},
	{api.InLea, "lea", "AT", 2, -8192, 8191},
	{api.InSys, "sys", "N", 1, 0, 127},
	{api.InSwap, "swap", "AX", 0, 0, 0},
	{api.InBreak, "break", "", 0, 0, 0},
}

func (r row) hasA() bool     { return strings.Contains(r.form, "A") }
func (r row) hasB() bool     { return strings.ContainsAny(r.form, "BMX") }
func (r row) relative() bool { return strings.Contains(r.form, "T") }

func (r row) length() int {
	if r.hasA() {
		return 2 + r.bytes
	}
	return 1 + r.bytes
}

func rowOf(op int) row {
	for _, r := range rows {
		if r.op == op {
			return r
		}
	}
	return row{}
}

// registersOf returns the values that a register may have.
func registersOf(has bool) []int {
	if has {
		return []int{0, 1, 2, 3, 4, 5, 6, 7}
	}
	return []int{0}
}

// corners returns values of Imm: all of them if few, otherwise those around the powers of 2.
func (r row) corners() []int64 {
	var out []int64
	if r.bytes <= 1 {
		for n := r.least; n <= r.most; n++ {
			out = append(out, n)
		}
		return out
	}
	out = append(out, 0, 200, -200, 5, -7, r.least, r.least+1, r.most, r.most-1)
	for p := int64(1); p > 0 && p <= r.most; p *= 2 {
		out = append(out, p, p-1, p+1, -p, -p+1, -p-1)
	}
	return out
}

// everyInsn returns all well-formed instructions; set and the far targets have the corners of Imm.
func everyInsn() []api.Insn {
	var out []api.Insn
	for _, r := range rows {
		for _, a := range registersOf(r.hasA()) {
			for _, b := range registersOf(r.hasB()) {
				for _, n := range r.corners() {
					out = append(out, api.Insn{Op: r.op, A: a, B: b, Imm: n})
				}
			}
		}
	}
	return out
}

func modelEncode(x api.Insn) []byte {
	r := rowOf(x.Op)
	out := []byte{byte(128 + x.Op)}
	if r.hasB() {
		out = append(out, byte(8*x.A+x.B))
	} else if r.hasA() {
		out = append(out, byte(x.A))
	}
	base := big.NewInt(128)
	rest := new(big.Int).Mod(big.NewInt(x.Imm), new(big.Int).Exp(base, big.NewInt(int64(r.bytes)), nil))
	for range r.bytes {
		digit := new(big.Int)
		rest.DivMod(rest, base, digit)
		out = append(out, byte(digit.Int64()))
	}
	return out
}

// registers finds the registers of which c is the encoding.
func (r row) registers(c byte, x *api.Insn) bool {
	for _, x.A = range registersOf(r.hasA()) {
		for _, x.B = range registersOf(r.hasB()) {
			if modelEncode(*x)[1] == c {
				return true
			}
		}
	}
	return false
}

// modelDecode finds the registers by trying them one by one, and reads Imm as a number of all its bits.
func modelDecode(b []byte) (api.Insn, int, api.Errno) {
	if len(b) == 0 {
		return api.Insn{}, 0, api.ErrShort
	}
	r := rowOf(int(b[0]) - 128)
	if r.name == "" {
		return api.Insn{}, 0, api.ErrInsn
	}
	x := api.Insn{Op: r.op}
	for i := 1; i < r.length(); i++ {
		if i == len(b) {
			return api.Insn{}, 0, api.ErrShort
		}
		if b[i] > 127 || i == 1 && r.hasA() && !r.registers(b[1], &x) {
			return api.Insn{}, 0, api.ErrInsn
		}
	}
	n := new(big.Int)
	for i := r.length() - 1; i >= r.length()-r.bytes; i-- {
		n.Mul(n, big.NewInt(128)).Add(n, big.NewInt(int64(b[i])))
	}
	if half := new(big.Int).Exp(big.NewInt(2), big.NewInt(int64(7*r.bytes-1)), nil); r.least < 0 && n.Cmp(half) >= 0 {
		n.Sub(n, half).Sub(n, half)
	}
	if !n.IsInt64() {
		return api.Insn{}, 0, api.ErrInsn
	}
	x.Imm = n.Int64()
	return x, r.length(), api.OK
}

func modelPrint(x api.Insn) string {
	r := rowOf(x.Op)
	var operands []string
	signed := big.NewInt(x.Imm).String()
	if x.Imm >= 0 {
		signed = "+" + signed
	}
	for _, k := range r.form {
		a, b := "r"+string(rune('0'+x.A)), "r"+string(rune('0'+x.B))
		s := map[rune]string{'A': a, 'B': b, 'N': strings.TrimPrefix(signed, "+"), 'M': "[" + b + signed + "]", 'X': "[" + b + "]", 'T': "." + signed}[k]
		operands = append(operands, strings.ReplaceAll(s, "+0]", "]"))
	}
	return strings.TrimSuffix(r.name+" "+strings.Join(operands, ", "), " ")
}

const (
	blanks  = `[ \t]*`
	someone = `[A-Za-z_][A-Za-z0-9_]{0,30}`
)

var (
	labelForm     = regexp.MustCompile(`(?s)\A` + blanks + `(` + someone + `)` + blanks + `:(.*)\z`)
	directiveForm = regexp.MustCompile(`\A` + blanks + `\.func[ \t]+(` + someone + `)` + blanks + `\z`)
	blankForm     = regexp.MustCompile(`\A` + blanks + `\z`)
	lineForms     = makeLineForms()
)

func makeLineForms() map[int]*regexp.Regexp {
	operands := map[rune]string{
		'A': `r(?P<A>[0-7])`,
		'B': `r(?P<B>[0-7])`,
		'N': `(?P<sign>-?)(?P<digits>[0-9]{1,19})`,
		'M': `\[` + blanks + `r(?P<B>[0-7])(?:` + blanks + `(?P<sign>[-+])` + blanks + `(?P<digits>[0-9]{1,19}))?` + blanks + `\]`,
		'X': `\[` + blanks + `r(?P<B>[0-7])` + blanks + `\]`,
		'T': `(?:\.(?P<sign>[-+])(?P<digits>[0-9]{1,19})|(?P<label>` + someone + `))`,
	}
	out := map[int]*regexp.Regexp{}
	for _, r := range rows {
		var parts []string
		for _, k := range r.form {
			parts = append(parts, operands[k])
		}
		s := strings.Join(parts, blanks+","+blanks)
		if s != "" {
			s = `[ \t]+` + s
		}
		out[r.op] = regexp.MustCompile(`\A` + blanks + r.name + s + blanks + `\z`)
	}
	return out
}

// modelLine returns the instruction of a line, its label, and ErrAsm, or ErrReach for a target that does not fit.
func modelLine(line string) (api.Insn, string, api.Errno) {
	for _, r := range rows {
		form := lineForms[r.op]
		m := form.FindStringSubmatch(line)
		if m == nil {
			continue
		}
		group := func(name string) string {
			if i := form.SubexpIndex(name); i >= 0 {
				return m[i]
			}
			return ""
		}
		x := api.Insn{Op: r.op}
		if s := group("A"); s != "" {
			x.A = int(s[0] - '0')
		}
		if s := group("B"); s != "" {
			x.B = int(s[0] - '0')
		}
		n := new(big.Int)
		if s := group("digits"); s != "" {
			n.SetString(s, 10)
		}
		if group("sign") == "-" {
			n.Neg(n)
		}
		if n.Cmp(big.NewInt(r.least)) < 0 || n.Cmp(big.NewInt(r.most)) > 0 {
			if r.relative() {
				return x, "", api.ErrReach
			}
			return x, "", api.ErrAsm
		}
		x.Imm = n.Int64()
		return x, group("label"), api.OK
	}
	return api.Insn{}, "", api.ErrAsm
}

func modelParse(line string) (api.Insn, api.Errno) {
	x, label, e := modelLine(line)
	switch {
	case e != api.OK:
		return api.Insn{}, e
	case label != "":
		return api.Insn{}, api.ErrAsm
	}
	return x, api.OK
}

// modelAssemble follows the chapter line by line, twice.
func modelAssemble(text string, at int64) ([]byte, []api.Sym, int, api.Errno) {
	type item struct {
		line, next int
		x          api.Insn
		label      string
		e          api.Errno
	}
	if len(text) > 20000 {
		return nil, nil, 0, api.ErrLong
	}
	if at < 0 || at > 1<<40 {
		return nil, nil, 0, api.ErrArg
	}
	var items []item
	var syms []api.Sym
	labels, size := map[string]int{}, 0
	for i, line := range strings.Split(text, "\n") {
		line = strings.Split(line, ";")[0]
		name := ""
		if m := directiveForm.FindStringSubmatch(line); m != nil {
			name, line = m[1], ""
			syms = append(syms, api.Sym{Name: name, At: at + int64(size)})
		} else if m := labelForm.FindStringSubmatch(line); m != nil {
			name, line = m[1], m[2]
		}
		x, label, e := modelLine(line)
		blank := blankForm.MatchString(line)
		_, twice := labels[name]
		switch {
		case !blank && e == api.ErrAsm:
			return nil, nil, i + 1, api.ErrAsm
		case twice:
			return nil, nil, i + 1, api.ErrLabel
		}
		if name != "" {
			labels[name] = size
		}
		if !blank {
			size += rowOf(x.Op).length()
			items = append(items, item{line: i + 1, next: size, x: x, label: label, e: e})
		}
		if size > 2048 || len(syms) > 32 {
			return nil, nil, i + 1, api.ErrLong
		}
	}
	var code []byte
	for _, it := range items {
		if to, ok := labels[it.label]; ok {
			it.x.Imm = int64(to - it.next)
		} else if it.label != "" {
			return nil, nil, it.line, api.ErrLabel
		}
		if r := rowOf(it.x.Op); it.e != api.OK || it.x.Imm < r.least || it.x.Imm > r.most {
			return nil, nil, it.line, api.ErrReach
		}
		code = append(code, modelEncode(it.x)...)
	}
	for i := range syms {
		end := at + int64(size)
		if i+1 < len(syms) {
			end = syms[i+1].At
		}
		syms[i].Size = end - syms[i].At
	}
	return code, syms, 0, api.OK
}

// maker makes instructions, lines and texts, the same ones in every run.
type maker struct{ *rand.Rand }

func newMaker() maker { return maker{rand.New(rand.NewSource(2))} }

func (m maker) pick(list ...string) string { return list[m.Intn(len(list))] }

func (m maker) insn() api.Insn {
	r := rows[m.Intn(len(rows))]
	x := api.Insn{Op: r.op}
	if r.hasA() {
		x.A = m.Intn(8)
	}
	if r.hasB() {
		x.B = m.Intn(8)
	}
	if c := r.corners(); m.Intn(2) == 0 && r.bytes > 0 {
		x.Imm = c[m.Intn(len(c))]
	} else if r.op == api.InSet {
		x.Imm = int64(m.Uint64())
	} else {
		x.Imm = r.least + m.Int63n(r.most-r.least+1)
	}
	return x
}

// insns returns a list of instructions that fit MaxCode.
func (m maker) insns(most int) []api.Insn {
	out := make([]api.Insn, m.Intn(most+1))
	for i := range out {
		out[i] = m.insn()
	}
	return out
}

// gap returns blanks, mostly none.
func (m maker) gap() string { return m.pick("", "", "", " ", "\t", " \t ") }

// line writes an instruction with blanks and zeros wherever they may stand, and with a label as its target, unless that is empty.
func (m maker) line(x api.Insn, label string) string {
	r := rowOf(x.Op)
	out := m.gap() + r.name
	for i, k := range r.form {
		if i == 0 {
			out += m.pick(" ", "\t", "\t  ")
		} else {
			out += m.gap() + "," + m.gap()
		}
		out += m.operand(x, k, label)
	}
	return out + m.gap()
}

func (m maker) operand(x api.Insn, kind rune, label string) string {
	n := big.NewInt(x.Imm)
	sign := m.pick("+", "+", "-")
	if n.Sign() != 0 {
		sign = map[int]string{1: "+", -1: "-"}[n.Sign()]
	}
	digits := n.Abs(n).String()
	if m.Intn(2) == 0 {
		digits = strings.Repeat("0", m.Intn(20-len(digits))) + digits
	}
	b := "[" + m.gap() + "r" + string(rune('0'+x.B)) + m.gap()
	switch kind {
	case 'A':
		return "r" + string(rune('0'+x.A))
	case 'B':
		return "r" + string(rune('0'+x.B))
	case 'N':
		return strings.TrimPrefix(sign, "+") + digits
	case 'X':
		return b + "]"
	case 'M':
		if x.Imm == 0 && m.Intn(2) == 0 {
			return b + "]"
		}
		return b + sign + m.gap() + digits + m.gap() + "]"
	}
	if label != "" {
		return label
	}
	return "." + sign + digits
}

// draft is a line of a text: what stands ahead of the instruction, the instruction (with the Op 0: none), the label that is its target, and what stands behind.
type draft struct {
	head  string
	x     api.Insn
	label string
	tail  string
}

// drafts makes a text. Labels may be missing, out of reach, or there twice.
func (m maker) drafts(most int) []draft {
	names := []string{"a", "b", "c", "_", "loop", "r1", "nop", "Z9", strings.Repeat("n", 31)}
	unused := slices.Clone(names)
	m.Shuffle(len(unused), func(i, j int) { unused[i], unused[j] = unused[j], unused[i] })
	name := func() string {
		if len(unused) == 0 || m.Intn(20) == 0 {
			return m.pick(names...)
		}
		next := unused[0]
		unused = unused[1:]
		return next
	}
	out := make([]draft, m.Intn(most+1))
	for i := range out {
		d := draft{x: m.insn(), tail: m.pick("", "", "", ";", "; a ; b:", ";\xff\r")}
		switch m.Intn(10) {
		case 0, 1:
			d.head = m.gap() + name() + m.gap() + ":"
		case 2:
			d.head, d.x = m.gap()+name()+m.gap()+":"+m.gap(), api.Insn{}
		case 3:
			d.head, d.x = m.gap()+".func"+m.pick(" ", "\t", " \t")+name()+m.gap(), api.Insn{}
		case 4:
			d.head, d.x = m.gap(), api.Insn{}
		}
		if rowOf(d.x.Op).relative() && m.Intn(4) > 0 {
			d.label, d.x.Imm = m.pick(names...), 0
		}
		out[i] = d
	}
	return out
}

// lengthen puts one target out of reach, by one.
func (m maker) lengthen(list []draft) {
	for i, d := range list {
		if r := rowOf(d.x.Op); r.relative() {
			list[i].label, list[i].x.Imm = "", []int64{r.least - 1, r.most + 1}[m.Intn(2)]
			return
		}
	}
}

// text writes a text line by line.
func (m maker) text(list []draft) string {
	var out []string
	for _, d := range list {
		line := d.head
		if d.x.Op != 0 {
			line += m.line(d.x, d.label)
		}
		out = append(out, line+d.tail)
	}
	return strings.Join(out, "\n")
}

// spoil changes a byte of a text, or takes it out, or puts one in.
func (m maker) spoil(s string) string {
	at := m.Intn(len(s) + 1)
	c := m.pick(" ", "\t", ",", "[", "]", "+", "-", ".", ":", ";", "\n", "r", "8", "0", "1", "x", "_", "\x00", "\xff", "\r")
	switch m.Intn(3) {
	case 0:
		return s[:at] + c + s[at:]
	case 1:
		return s[:at] + s[min(at+1, len(s)):]
	}
	return s[:at] + c + s[min(at+1, len(s)):]
}
