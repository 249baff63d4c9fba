package insn

import (
	"strconv"
	"strings"

	"tapline/api"
)

// Print returns an instruction as a canonical line of assembly language.
func Print(x api.Insn) (string, api.Errno) {
	o, l, ok := formed(x)
	if !ok {
		return "", api.ErrInsn
	}
	line, separator := o.name, " "
	for _, kind := range l.operands {
		if kind != kindNone {
			line += separator + written(x, kind)
			separator = ", "
		}
	}
	return line, api.OK
}

// written returns an operand of an instruction as it stands in its canonical line.
func written(x api.Insn, kind int) string {
	switch kind {
	case kindA:
		return register(x.A)
	case kindB:
		return register(x.B)
	case kindNumber:
		return strconv.FormatInt(x.Imm, 10)
	case kindAddress:
		if x.Imm != 0 {
			return "[" + register(x.B) + distance(x.Imm) + "]"
		}
		return "[" + register(x.B) + "]"
	case kindBracket:
		return "[" + register(x.B) + "]"
	}
	return "." + distance(x.Imm)
}

func register(n int) string {
	return "r" + strconv.Itoa(n)
}

// distance returns a number that always has a sign.
func distance(n int64) string {
	if n < 0 {
		return strconv.FormatInt(n, 10)
	}
	return "+" + strconv.FormatInt(n, 10)
}

// Parse returns the instruction of a line of assembly language without labels.
func Parse(line string) (x api.Insn, e api.Errno) {
	if len(line) > api.MaxText {
		return api.Insn{}, api.ErrLong
	}
	defer func() {
		if f, ok := recover().(failure); ok {
			x, e = api.Insn{}, f.err
		}
	}()
	r := reader{rest: line}
	r.instruction()
	if Check(r.insn) != api.OK {
		fail(api.ErrReach)
	}
	return r.insn, api.OK
}

// failure is what the assembler panics with: the error of a line.
type failure struct {
	err api.Errno
}

func fail(e api.Errno) {
	panic(failure{e})
}

// reader reads a line from the left to the right, and fails with ErrAsm where the line is not of the form that it expects. What it has read stands in its fields: the label that the line defines and whether a directive does so, the instruction (with the Op 0: none), and the label that is its target. An empty string stands for no label.
type reader struct {
	rest      string
	labels    bool // a target may be a label
	defined   string
	directive bool
	insn      api.Insn
	target    string
}

// instruction reads an instruction line. Whether a target fits is left open: a label is not known yet.
func (r *reader) instruction() {
	r.blanks()
	o, ok := withName(r.take(isNameByte))
	if !ok {
		fail(api.ErrAsm)
	}
	l := layouts[o.layout]
	r.insn.Op = o.op
	r.operands(l)
	r.end()
	if !l.relative() && Check(r.insn) != api.OK {
		fail(api.ErrAsm)
	}
}

func (r *reader) operands(l layout) {
	read := operandReaders()
	for i, kind := range l.operands {
		if kind == kindNone {
			return
		}
		if i == 0 {
			r.gap()
		} else {
			r.comma()
		}
		read[kind](r)
	}
}

// operandReaders returns what reads each kind of operand.
func operandReaders() [kinds]func(*reader) {
	return [kinds]func(*reader){
		kindA:       (*reader).readA,
		kindB:       (*reader).readB,
		kindNumber:  (*reader).readNumber,
		kindAddress: (*reader).readAddress,
		kindBracket: (*reader).readBracket,
		kindTarget:  (*reader).readTarget,
	}
}

func (r *reader) readA() {
	r.insn.A = r.register()
}

func (r *reader) readB() {
	r.insn.B = r.register()
}

func (r *reader) readNumber() {
	n, ok := r.amount(r.accept("-"))
	if !ok {
		fail(api.ErrAsm)
	}
	r.insn.Imm = n
}

func (r *reader) readAddress() {
	r.open()
	r.blanks()
	negative := r.accept("-")
	if negative || r.accept("+") {
		r.blanks()
		r.insn.Imm, _ = r.amount(negative)
	}
	r.close()
}

func (r *reader) readBracket() {
	r.open()
	r.close()
}

func (r *reader) readTarget() {
	negative := r.accept(".-")
	switch {
	case negative, r.accept(".+"):
		r.insn.Imm, _ = r.amount(negative)
	case r.labels:
		r.target = r.name()
	default:
		fail(api.ErrAsm)
	}
}

// open reads the beginning of an operand in brackets: its register is B.
func (r *reader) open() {
	r.expect("[")
	r.blanks()
	r.readB()
}

func (r *reader) close() {
	r.blanks()
	r.expect("]")
}

func (r *reader) register() int {
	r.expect("r")
	if r.rest == "" || r.rest[0] < '0' || r.rest[0] > '7' {
		fail(api.ErrAsm)
	}
	n := int(r.rest[0] - '0')
	r.rest = r.rest[1:]
	return n
}

// amount reads 1 to 19 digits and returns their value, or its negation, and whether it is an int64. If it is not, the value is the bound of int64 on its side, which fits no address and no target either.
func (r *reader) amount(negative bool) (int64, bool) {
	digits := r.take(isDigit)
	if digits == "" || len(digits) > 19 {
		fail(api.ErrAsm)
	}
	if negative {
		digits = "-" + digits
	}
	n, err := strconv.ParseInt(digits, 10, 64)
	return n, err == nil
}

func (r *reader) name() string {
	name := r.take(isNameByte)
	if !isName(name) {
		fail(api.ErrAsm)
	}
	return name
}

func (r *reader) comma() {
	r.blanks()
	r.expect(",")
	r.blanks()
}

// gap reads at least one blank.
func (r *reader) gap() {
	if r.take(isBlank) == "" {
		fail(api.ErrAsm)
	}
}

func (r *reader) blanks() {
	r.take(isBlank)
}

func (r *reader) end() {
	r.blanks()
	if r.rest != "" {
		fail(api.ErrAsm)
	}
}

func (r *reader) expect(s string) {
	if !r.accept(s) {
		fail(api.ErrAsm)
	}
}

// accept reads s, if it comes next.
func (r *reader) accept(s string) bool {
	rest, ok := strings.CutPrefix(r.rest, s)
	r.rest = rest
	return ok
}

// take reads the bytes of a class that come next.
func (r *reader) take(class func(c byte) bool) string {
	n := 0
	for n < len(r.rest) && class(r.rest[n]) {
		n++
	}
	taken := r.rest[:n]
	r.rest = r.rest[n:]
	return taken
}

func isName(s string) bool {
	if s == "" || len(s) > api.MaxName || isDigit(s[0]) {
		return false
	}
	for _, c := range []byte(s) {
		if !isNameByte(c) {
			return false
		}
	}
	return true
}

func isNameByte(c byte) bool {
	return 'a' <= c && c <= 'z' || 'A' <= c && c <= 'Z' || c == '_' || isDigit(c)
}

func isDigit(c byte) bool {
	return '0' <= c && c <= '9'
}

func isBlank(c byte) bool {
	return c == ' ' || c == '\t'
}
