package insn_test

import (
	"slices"
	"strconv"
	"strings"
	"testing"

	"tapline/api"
	"tapline/insn"
)

func assemblesAs(t *testing.T, text string, at int64, code []byte, syms []api.Sym, line int, e api.Errno) {
	t.Helper()
	b, s, n, f := insn.Assemble(text, at)
	if !slices.Equal(b, code) || !slices.Equal(s, syms) || n != line || f != e {
		t.Errorf("Assemble(%.200q, %d) = %v, %v, %d, %d; want %v, %v, %d, %d", text, at, b, s, n, f, code, syms, line, e)
	}
}

// directives returns a text of n directives.
func directives(n int) string {
	var out strings.Builder
	for i := range n {
		out.WriteString(".func f" + strconv.Itoa(i) + "\n")
	}
	return out.String()
}

// P2.1, I5: labels, symbols, comments, blanks.
func TestAssemble(t *testing.T) {
	long := strings.Repeat("n", 30) + "9"
	for _, c := range []struct {
		text string
		at   int64
		code []byte
		syms []api.Sym
	}{
		{".func f\nl: inc r0, 1\njump l", 100, []byte{144, 0, 1, 153, 122, 127}, []api.Sym{{Name: "f", At: 100, Size: 6}}},
		{"", 0, nil, nil}, {"\n\n", 0, nil, nil}, {" \t\n;\n ; nop\n;;nop", 0, nil, nil}, {"nop", 0, []byte{129}, nil}, {"nop\n", 0, []byte{129}, nil}, {"\nnop\n\nret", 0, []byte{129, 157}, nil},
		{"nop;ret", 0, []byte{129}, nil}, {"\tnop ; ret ; l: \xff\r\x00", 0, []byte{129}, nil}, {"nop;\nret", 0, []byte{129, 157}, nil},
		{"l:jump l", 0, []byte{153, 125, 127}, nil}, {" \tl \t:\t jump l", 0, []byte{153, 125, 127}, nil}, {"l:\n\n; here\njump l", 0, []byte{153, 125, 127}, nil}, {"l: ; jump x\njump l", 0, []byte{153, 125, 127}, nil}, {"jump l\nl:", 0, []byte{153, 0, 0}, nil}, {"jump l\nnop\nl:", 0, []byte{153, 1, 0, 129}, nil}, {"jump l\n.func l", 7, []byte{153, 0, 0}, []api.Sym{{Name: "l", At: 10}}},
		{"a:\nb:\nc: nop\njump a\njump b\njump c", 0, []byte{129, 153, 124, 127, 153, 121, 127, 153, 118, 127}, nil}, {"lea r1, f\nbeq r2, r3, f\n.func f\ncall f", 0, []byte{160, 1, 3, 0, 149, 19, 0, 155, 125, 127}, []api.Sym{{Name: "f", At: 7, Size: 3}}},
		{"nop: nop\njump nop", 0, []byte{129, 153, 124, 127}, nil}, {"r1: jump r1", 0, []byte{153, 125, 127}, nil}, {"_:jump _", 0, []byte{153, 125, 127}, nil}, {"func: call func", 0, []byte{155, 125, 127}, nil}, {"Ab9_: jump Ab9_", 0, []byte{153, 125, 127}, nil}, {"x:\nX: jump X", 0, []byte{153, 125, 127}, nil},
		{long + ": jump " + long, 0, []byte{153, 125, 127}, nil}, {".func " + long + "\ncall " + long, 0, []byte{155, 125, 127}, []api.Sym{{Name: long, Size: 3}}},
		{"nop\n \t.func\t a\t ; first\nret\n.func b\n.func c\nsys 1\nsys 2", 50, []byte{129, 157, 161, 1, 161, 2}, []api.Sym{{Name: "a", At: 51, Size: 1}, {Name: "b", At: 52}, {Name: "c", At: 52, Size: 4}}}, {".func a\n.func b", 9, nil, []api.Sym{{Name: "a", At: 9}, {Name: "b", At: 9}}},
		{"jump .+5\njump .-6", 0, []byte{153, 5, 0, 153, 122, 127}, nil}, {"nop", 1 << 40, []byte{129}, nil}, {".func f\nnop", 1 << 40, []byte{129}, []api.Sym{{Name: "f", At: 1 << 40, Size: 1}}},
	} {
		assemblesAs(t, c.text, c.at, c.code, c.syms, 0, api.OK)
	}
}

// P2.1, I5: the reach of a label, on both sides.
func TestReachOfLabels(t *testing.T) {
	nops := func(n int) string { return strings.Repeat("nop\n", n) }
	check := func(text string, offset int, imm int64, line int, e api.Errno) {
		t.Helper()
		b, _, n, f := insn.Assemble(text, 0)
		if n != line || f != e {
			t.Errorf("Assemble(%.30q of %d bytes): line %d, %d; want %d, %d", text, len(text), n, f, line, e)
		} else if e == api.OK {
			if x, _, _ := insn.Decode(b[offset:]); x.Imm != imm {
				t.Errorf("Assemble(%.30q of %d bytes): the target is %d; want %d", text, len(text), x.Imm, imm)
			}
		}
	}
	for _, s := range []string{"beq r0, r0, l", "bne r1, r0, l", "blt r0, r1, l", "bge r7, r7, l"} {
		check(s+"\n"+nops(63)+"l:", 0, 63, 0, api.OK)
		check(s+"\n"+nops(64)+"l:", 0, 0, 1, api.ErrReach)
		check("l:\n"+nops(61)+s, 61, -64, 0, api.OK)
		check("l:\n"+nops(62)+s, 0, 0, 64, api.ErrReach)
	}
	for s, size := range map[string]int{"jump l": 3, "call l": 3, "lea r1, l": 4} {
		check(s+"\n"+nops(2048-size)+"l:", 0, int64(2048-size), 0, api.OK)
		check("l:\n"+nops(2048-size)+s, 2048-size, -2048, 0, api.OK)
	}
}

// P2.1, I5: errors that are found when the lines are read.
func TestAssembleErrors(t *testing.T) {
	name := strings.Repeat("n", 32)
	for want, texts := range map[api.Errno]map[string]int{
		api.ErrAsm: {
			"nopp": 1, "nop\nnop nop": 2, "\n\n\nmove r1\n": 4, "nop\r\nret": 1, "l": 1, "l nop": 1, "1: nop": 1, "1a: nop": 1, ": nop": 1, ":": 1, "l:: nop": 1, "l.: nop": 1, ".l: nop": 1, "l-: nop": 1, "a b: nop": 1, "a: b: nop": 1, "a: nop b: nop": 1, "é: nop": 1, name + ": nop": 1, "nop\njump " + name: 2,
			".func": 1, ".func ": 1, ".funcf": 1, ".func f g": 1, ".func f:": 1, ".func f nop": 1, ".func 1f": 1, ".func f-g": 1, ".func " + name: 1, ".FUNC f": 1, "func f": 1, ". func f": 1, "l: .func f": 1, ".func f: nop": 1, ".func .func": 1, ".func:": 1, ".func l: nop": 1, ".fun f": 1,
			"lit r0, 64": 1, "sys 128": 1, "load1 r0, [r1+64]": 1, "set r0, 9223372036854775808": 1, "set r0, 00000000000000000001": 1, "jump 1l": 1, "jump l m": 1, "jump l+1": 1, "jump [l]": 1, "jump": 1, "jump .+00000000000000000001": 1, "lit r0, l": 1, "beq r0, l": 1, "nop , ; r0": 1,
			// A line that is wrong comes ahead of what is found on a second look, of a label of its own, and of the code's length.
			"jump x\nbad": 2, "jump .+9000\nbad": 2, "l: nop\nl: bad": 2, strings.Repeat("nop\n", 2048) + "nop nop": 2049, "jump .+9000 x": 1, directives(32) + ".func f32 f": 33,
		},
		api.ErrLabel: {
			"l:\nl:": 2, "nop\nl: nop\nl: nop": 3, ".func f\n.func f": 2, "f:\n.func f": 2, ".func f\nf: nop": 2, "l: nop\n\n\n  l : ret\nbad": 4,
			"jump x": 1, "nop\njump x": 2, "l: jump L": 1, "beq r0, r0, r0": 1, "jump r0": 1, "lea r1, f": 1, "call func\n.func f": 1, "l:\njump l\njump k\njump .+9000": 3, "jump f\n;f:\n": 1,
			// A label that is there twice comes ahead of the code's length; one that is missing is found after all lines, line by line.
			"l:\n" + strings.Repeat("nop\n", 2048) + "l: nop": 2050, directives(32) + ".func f31": 33, "jump x\nl:\nl:": 3, "jump x\njump .+9000": 1,
		},
		api.ErrReach: {
			"jump .+8192": 1, "nop\njump .-8193": 2, "beq r0, r0, .+64": 1, "bge r0, r0, .-65": 1, "lea r0, .+9999999999999999999": 1, "call .-9223372036854775809": 1, "jump .+9000\njump x": 1, "l:\n" + strings.Repeat("nop\n", 70) + "beq r0, r0, l": 72, "blt r1, r2, l\n" + strings.Repeat("nop\n", 64) + "l: nop": 1, "nop\nbeq r0, r0, .+64\nbeq r0, r0, .+65": 2,
		},
		api.ErrLong: {
			strings.Repeat("nop\n", 2049): 2049, strings.Repeat("nop\n", 2047) + "move r0, r0\nbad": 2048, strings.Repeat("set r0, 0\n", 170) + "lea r0, .+0\nmove r0, r0\nsys 0\nnop": 174, "jump x\njump .+9000\n" + strings.Repeat("nop\n", 2043): 2045, directives(33): 33, strings.Repeat("nop\n", 2047) + "jump .+9000": 2048,
			strings.Repeat(" ", 20001): 0, strings.Repeat("\n", 20000) + "x": 0, "bad\n" + strings.Repeat(";", 20000): 0,
		},
	} {
		for text, line := range texts {
			assemblesAs(t, text, 0, nil, nil, line, want)
			assemblesAs(t, text, 1<<40, nil, nil, line, want)
		}
	}
}

// P2.1, I5: each limit, and one beyond it.
func TestLimitsOfAssemble(t *testing.T) {
	assemblesAs(t, strings.Repeat("nop\n", 2048), 0, slices.Repeat([]byte{129}, 2048), nil, 0, api.OK)
	assemblesAs(t, strings.Repeat("nop\n", 2047)+"l:;"+strings.Repeat(".", 20000-8191), 3, slices.Repeat([]byte{129}, 2047), nil, 0, api.OK)
	assemblesAs(t, strings.Repeat(" ", 20000), 0, nil, nil, 0, api.OK)
	assemblesAs(t, strings.Repeat("\n", 20000), 0, nil, nil, 0, api.OK)
	assemblesAs(t, strings.Repeat("\n", 19999)+"x", 0, nil, nil, 20000, api.ErrAsm)
	for _, at := range []int64{-1, 1<<40 + 1, -1 << 63, 1<<63 - 1} {
		assemblesAs(t, "nop", at, nil, nil, 0, api.ErrArg)
		assemblesAs(t, "bad", at, nil, nil, 0, api.ErrArg)
		assemblesAs(t, strings.Repeat(" ", 20001), at, nil, nil, 0, api.ErrLong)
	}
	b, syms, line, e := insn.Assemble(directives(32)+"nop", 5)
	if !slices.Equal(b, []byte{129}) || len(syms) != 32 || syms[31] != (api.Sym{Name: "f31", At: 5, Size: 1}) || syms[0] != (api.Sym{Name: "f0", At: 5}) || line != 0 || e != api.OK {
		t.Errorf("Assemble of MaxSyms directives = %v, %v, %d, %d", b, syms, line, e)
	}
}

// P2.1, I5: texts of every form, and texts in which a byte is wrong.
func TestAssembleByTheModel(t *testing.T) {
	m := newMaker()
	found := map[api.Errno]int{}
	for i := range 20000 {
		list := m.drafts(1 + i%25)
		if m.Intn(4) == 0 {
			m.lengthen(list)
		}
		text := m.text(list)
		for range m.Intn(3) * m.Intn(2) {
			text = m.spoil(text)
		}
		at := []int64{0, 100, 1 << 40}[i%3]
		code, syms, line, e := modelAssemble(text, at)
		assemblesAs(t, text, at, code, syms, line, e)
		found[e]++
	}
	for _, e := range []api.Errno{api.OK, api.ErrAsm, api.ErrLabel, api.ErrReach} {
		if found[e] < 500 {
			t.Errorf("only %d texts with the error %d", found[e], e)
		}
	}
}

func listsAs(t *testing.T, b []byte, at int64, syms []api.Sym, want string, e api.Errno) {
	t.Helper()
	if s, f := insn.Disassemble(b, at, syms); s != want || f != e {
		t.Errorf("Disassemble(%.20v, %d, %v) = %q, %d; want %q, %d", b, at, syms, s, f, want, e)
	}
}

// P2.1, I6.
func TestDisassemble(t *testing.T) {
	code := []byte{144, 0, 1, 153, 122, 127}
	listsAs(t, code, 100, []api.Sym{{Name: "f", At: 100, Size: 6}}, ".func f\ninc r0, 1\njump .-6\n", api.OK)
	listsAs(t, code, 100, nil, "inc r0, 1\njump .-6\n", api.OK)
	listsAs(t, code, 0, []api.Sym{{Name: "f", At: 3, Size: 3}}, "inc r0, 1\n.func f\njump .-6\n", api.OK)
	listsAs(t, code, 1<<40, []api.Sym{{Name: "f", At: 1 << 40, Size: 3}, {Name: "b", At: 1<<40 + 3}, {Name: "a", At: 1<<40 + 3, Size: 3}, {Name: "_", At: 1<<40 + 6}, {Name: "Z9", At: 1<<40 + 6}}, ".func f\ninc r0, 1\n.func b\n.func a\njump .-6\n.func _\n.func Z9\n", api.OK)
	listsAs(t, nil, 7, nil, "", api.OK)
	listsAs(t, nil, 7, []api.Sym{{Name: "f", At: 7}, {Name: strings.Repeat("g", 31), At: 7}}, ".func f\n.func "+strings.Repeat("g", 31)+"\n", api.OK)
}

// P2.1, I6: symbols that are none, and the order of the errors.
func TestDisassembleErrors(t *testing.T) {
	code := []byte{144, 0, 1, 153, 122, 127}
	for _, syms := range [][]api.Sym{
		{{Name: "", At: 100, Size: 6}}, {{Name: "1f", At: 100, Size: 6}}, {{Name: "f g", At: 100, Size: 6}}, {{Name: "f-", At: 100, Size: 6}}, {{Name: ".f", At: 100, Size: 6}}, {{Name: "f\n", At: 100, Size: 6}}, {{Name: "é", At: 100, Size: 6}}, {{Name: strings.Repeat("f", 32), At: 100, Size: 6}},
		{{Name: "f", At: 100, Size: 3}, {Name: "f", At: 103, Size: 3}}, {{Name: "f", At: 100, Size: 0}, {Name: "g", At: 100, Size: 3}, {Name: "f", At: 103, Size: 3}},
		{{Name: "f", At: 101, Size: 5}}, {{Name: "f", At: 102, Size: 4}}, {{Name: "f", At: 104, Size: 2}}, {{Name: "f", At: 107, Size: -1}}, {{Name: "f", At: 99, Size: 7}}, {{Name: "f", At: 0, Size: 106}}, {{Name: "f", At: 3, Size: 3}}, {{Name: "f", At: -100, Size: 206}}, {{Name: "f", At: -1 << 63, Size: -1<<63 + 106}}, {{Name: "f", At: 1<<63 - 1, Size: 106 - (1<<63 - 1)}},
		{{Name: "f", At: 103, Size: -3}, {Name: "g", At: 100, Size: 6}}, {{Name: "f", At: 106, Size: -3}, {Name: "g", At: 103, Size: 3}},
		{{Name: "f", At: 100, Size: 5}}, {{Name: "f", At: 100, Size: 7}}, {{Name: "f", At: 100}}, {{Name: "f", At: 100, Size: -6}}, {{Name: "f", At: 106, Size: 1}}, {{Name: "f", At: 100, Size: 6}, {Name: "g", At: 103, Size: 3}}, {{Name: "f", At: 100, Size: 3}, {Name: "g", At: 103, Size: 4}}, {{Name: "f", At: 100, Size: 3}, {Name: "g", At: 103, Size: 0}},
	} {
		listsAs(t, code, 100, syms, "", api.ErrForm)
	}
	full := make([]api.Sym, 32)
	for i := range full {
		full[i] = api.Sym{Name: "f" + strconv.Itoa(i), At: 5}
	}
	listsAs(t, nil, 5, full, directives(32), api.OK)
	long := append(slices.Clone(full), api.Sym{Name: "g", At: 5})
	listsAs(t, nil, 5, long, "", api.ErrLong)
	listsAs(t, []byte{10}, -1, long, "", api.ErrLong)
	wrong := []api.Sym{{}}
	for _, at := range []int64{-1, 1<<40 + 1, -1 << 63, 1<<63 - 1} {
		listsAs(t, code, at, nil, "", api.ErrArg)
		listsAs(t, []byte{10}, at, wrong, "", api.ErrArg)
	}
	listsAs(t, []byte{10}, 0, wrong, "", api.ErrInsn)
	listsAs(t, []byte{129, 130}, 1<<40, wrong, "", api.ErrShort)
	listsAs(t, slices.Repeat([]byte{129}, 2049), 0, wrong, "", api.ErrLong)
	listsAs(t, slices.Repeat([]byte{129}, 2048), 0, nil, strings.Repeat("nop\n", 2048), api.OK)
}
