package insn_test

import (
	"slices"
	"strconv"
	"strings"
	"testing"

	"tapline/api"
	"tapline/insn"
)

func encode(t *testing.T, x api.Insn) []byte {
	t.Helper()
	b, e := insn.Encode(x)
	if e != api.OK {
		t.Fatalf("Encode(%v): %d", x, e)
	}
	return b
}

// sequence encodes instructions one behind the other, and returns their offsets too.
func sequence(t *testing.T, list []api.Insn) (code []byte, offsets []int) {
	t.Helper()
	for _, x := range list {
		offsets = append(offsets, len(code))
		code = append(code, encode(t, x)...)
	}
	return code, offsets
}

// everyFarTarget returns the instructions whose Imm everyInsn does not exhaust.
func everyFarTarget() []api.Insn {
	var out []api.Insn
	for n := int64(-8192); n <= 8191; n++ {
		out = append(out, api.Insn{Op: api.InJump, Imm: n}, api.Insn{Op: api.InCall, Imm: n}, api.Insn{Op: api.InLea, A: int(n & 7), Imm: n})
	}
	return out
}

// P2.2: Decode undoes Encode, whatever follows.
func TestDecodeOfEncode(t *testing.T) {
	m := newMaker()
	list := append(everyInsn(), everyFarTarget()...)
	for range 5000 {
		list = append(list, m.insn())
	}
	for _, x := range list {
		b := encode(t, x)
		for _, tail := range [][]byte{nil, {0}, {127}, {128}, {204}, {255, 255}, b} {
			if y, n, e := insn.Decode(slices.Concat(b, tail)); y != x || n != len(b) || e != api.OK {
				t.Errorf("Decode of the encoding of %v, with %v behind it: %v, %d, %d", x, tail, y, n, e)
			}
		}
	}
}

// P2.2: what Decode returns has as its encoding the beginning of the bytes.
func TestEncodeOfDecode(t *testing.T) {
	m := newMaker()
	decoded := 0
	for range 200000 {
		b := make([]byte, m.Intn(14))
		m.Read(b)
		for i := range b {
			b[i] &= 127
		}
		if len(b) > 1 {
			b[0] = byte(128 + m.Intn(80))
			b[1] &= byte(m.Intn(128))
			b[len(b)-1] *= byte(m.Intn(2))
		}
		x, n, e := insn.Decode(b)
		if e != api.OK {
			continue
		}
		decoded++
		if n > len(b) || !slices.Equal(encode(t, x), b[:n]) {
			t.Errorf("Decode(%v) = %v, %d, whose encoding is %v", b, x, n, encode(t, x))
		}
	}
	if decoded < 10000 {
		t.Errorf("only %d encodings", decoded)
	}
}

// P2.3: no instruction begins within another one.
func TestSelfSynchronization(t *testing.T) {
	for _, x := range append(everyInsn(), everyFarTarget()...) {
		b := append(encode(t, x), 129, 130, 10)
		for i := 1; i < len(b)-3; i++ {
			if y, n, e := insn.Decode(b[i:]); y != (api.Insn{}) || n != 0 || e != api.ErrInsn {
				t.Errorf("Decode within the encoding of %v, behind %d bytes: %v, %d, %d", x, i, y, n, e)
			}
		}
	}
}

// P2.3: the sequences that begin at any two offsets coincide from where the second one begins, or the second one is none.
func TestSequencesCoincide(t *testing.T) {
	m := newMaker()
	for range 500 {
		list := m.insns(20)
		code, offsets := sequence(t, list)
		for at := range code {
			rest, starts, e := insn.Sweep(code[at:])
			i := slices.Index(offsets, at)
			if i < 0 && e != api.ErrInsn || i >= 0 && (e != api.OK || !slices.Equal(rest, list[i:]) || len(starts) != len(offsets)-i) {
				t.Errorf("Sweep from the offset %d of %v: %v, %d", at, list, rest, e)
			}
		}
	}
}

// P2.4: a breakpoint in the first byte of each instruction changes no other one.
func TestBreakpoints(t *testing.T) {
	m := newMaker()
	for i := range 400 {
		code, offsets := sequence(t, m.insns(15))
		if i%2 == 0 {
			code = append(code, [][]byte{{10}, {130}, {131, 7, 1}, {128}, {205}, {145, 64}}[i/2%6]...) // errors stay as they are, too
		}
		for _, at := range offsets {
			patched := slices.Clone(code)
			patched[at] = 204
			for other := range code {
				x, n, e := insn.Decode(code[other:])
				if other == at {
					x, n, e = api.Insn{Op: api.InBreak}, 1, api.OK
				}
				decodesAs(t, patched[other:], x, n, e)
			}
		}
	}
}

// P2.5: Parse undoes Print.
func TestParseOfPrint(t *testing.T) {
	m := newMaker()
	list := append(everyInsn(), everyFarTarget()...)
	for range 5000 {
		list = append(list, m.insn())
	}
	for _, x := range list {
		line, e := insn.Print(x)
		if e != api.OK {
			t.Fatalf("Print(%v): %d", x, e)
		}
		parsesAs(t, line, x, api.OK)
	}
}

// P2.6: Assemble undoes Disassemble.
func TestAssembleOfDisassemble(t *testing.T) {
	m := newMaker()
	for i := range 3000 {
		at := []int64{0, 77, 1 << 40}[i%3]
		code, offsets := sequence(t, m.insns(60))
		offsets = append(offsets, len(code))
		places := make([]int, m.Intn(33))
		for k := range places {
			places[k] = offsets[m.Intn(len(offsets))]
		}
		slices.Sort(places)
		var syms []api.Sym
		for k, p := range places {
			size := append(places, len(code))[k+1] - p
			syms = append(syms, api.Sym{Name: m.pick("f", "_", "nop", "R") + strconv.Itoa(k), At: at + int64(p), Size: int64(size)})
		}
		text, e := insn.Disassemble(code, at, syms)
		if e != api.OK {
			t.Fatalf("Disassemble(%v, %d, %v): %d", code, at, syms, e)
		}
		assemblesAs(t, text, at, code, syms, 0, api.OK)
	}
}

// P2.6: the longest listings are texts that can be assembled.
func TestLongestListings(t *testing.T) {
	for _, x := range everyInsn() {
		r := rowOf(x.Op)
		if x.A > 0 || x.B > 0 || x.Imm != r.least {
			continue
		}
		code, _ := sequence(t, slices.Repeat([]api.Insn{x}, 2048/r.length()))
		syms := make([]api.Sym, 32)
		for k := range syms {
			name := strings.Repeat("n", 29) + strconv.Itoa(k+10)
			syms[k] = api.Sym{Name: name, At: int64(len(code))}
		}
		text, e := insn.Disassemble(code, 0, syms)
		if e != api.OK {
			t.Fatalf("Disassemble of many %v: %d", x, e)
		}
		assemblesAs(t, text, 0, code, syms, 0, api.OK)
	}
}

// P2.6: the listing of an assembled text has the same bytes and symbols.
func TestDisassembleOfAssemble(t *testing.T) {
	m := newMaker()
	assembled := 0
	for range 5000 {
		code, syms, _, e := insn.Assemble(m.text(m.drafts(12)), 1000)
		if e != api.OK {
			continue
		}
		assembled++
		text, e := insn.Disassemble(code, 1000, syms)
		if e != api.OK {
			t.Fatalf("Disassemble(%v, 1000, %v): %d", code, syms, e)
		}
		assemblesAs(t, text, 1000, code, syms, 0, api.OK)
	}
	if assembled < 1000 {
		t.Errorf("only %d texts", assembled)
	}
}

// P2.7: the address moves the symbols, and nothing else.
func TestPosition(t *testing.T) {
	m := newMaker()
	moved := 0
	for range 3000 {
		text := m.text(m.drafts(20))
		if m.Intn(3) == 0 {
			text = m.spoil(text)
		}
		code, syms, line, e := insn.Assemble(text, 0)
		for _, at := range []int64{1, 8191, 1 << 40} {
			var want []api.Sym
			for _, s := range syms {
				want = append(want, api.Sym{Name: s.Name, At: s.At + at, Size: s.Size})
				moved++
			}
			assemblesAs(t, text, at, code, want, line, e)
		}
	}
	if moved < 1000 {
		t.Errorf("only %d symbols", moved)
	}
}

// P2.8: the bytes of two texts one behind the other.
func TestConcatenation(t *testing.T) {
	m := newMaker()
	plain := func() (string, []byte) {
		var list []draft
		for _, d := range m.drafts(12) {
			if rowOf(d.x.Op).relative() || d.x.Op == 0 || d.head != "" {
				d.head, d.label = m.gap(), ""
			}
			list = append(list, d)
		}
		text := m.text(list)
		code, syms, line, e := insn.Assemble(text, 3)
		if len(syms) != 0 || line != 0 || e != api.OK {
			t.Fatalf("Assemble(%q) = %v, %d, %d", text, syms, line, e)
		}
		return text, code
	}
	for range 1000 {
		one, a := plain()
		two, b := plain()
		assemblesAs(t, one+"\n"+two, 3, slices.Concat(a, b), nil, 0, api.OK)
	}
}

// P2.9: lengths, and the offsets that follow from them.
func TestLengths(t *testing.T) {
	shortest, longest := 100, 0
	for _, x := range everyInsn() {
		n, e := insn.Len(x)
		if n < 1 || n > 12 || n != len(encode(t, x)) || e != api.OK {
			t.Errorf("Len(%v) = %d, %d", x, n, e)
		}
		shortest, longest = min(shortest, n), max(longest, n)
	}
	if shortest != 1 || longest != 12 {
		t.Errorf("lengths are from %d to %d", shortest, longest)
	}
	m := newMaker()
	for range 500 {
		code, want := sequence(t, m.insns(40))
		list, offsets, e := insn.Sweep(code)
		if len(list) != len(want) || !slices.Equal(offsets, want) || e != api.OK {
			t.Fatalf("Sweep(%v) = %v, %v, %d; want the offsets %v", code, list, offsets, e, want)
		}
		at := 0
		for i, x := range list {
			if offsets[i] != at {
				t.Errorf("offset %d is %d, not %d", i, offsets[i], at)
			}
			n, _ := insn.Len(x)
			at += n
		}
	}
}

// P2.10: a label is worth the distance to it.
func TestLabels(t *testing.T) {
	m := newMaker()
	replaced := 0
	for range 20000 {
		list := m.drafts(15)
		code, syms, _, e := insn.Assemble(m.text(list), 20)
		if e != api.OK {
			continue
		}
		labels, at := map[string]int{}, 0
		for _, d := range list {
			head := strings.TrimRight(strings.TrimSpace(d.head), " \t:")
			if name := strings.TrimSpace(strings.TrimPrefix(head, ".func")); name != "" {
				labels[name] = at
			}
			at += lengthOf(d)
		}
		at = 0
		for i, d := range list {
			at += lengthOf(d)
			if d.label != "" {
				list[i].x.Imm, list[i].label = int64(labels[d.label]-at), ""
				replaced++
			}
		}
		assemblesAs(t, m.text(list), 20, code, syms, 0, api.OK)
	}
	if replaced < 1000 {
		t.Errorf("only %d labels", replaced)
	}
}

func lengthOf(d draft) int {
	if d.x.Op == 0 {
		return 0
	}
	return rowOf(d.x.Op).length()
}

// P2.1: results are new memory.
func TestResultsAreNew(t *testing.T) {
	add := api.Insn{Op: api.InAdd, A: 1, B: 2}
	first := encode(t, add)
	first[0] = 0
	insn.Reads(add)[0] = 9
	insn.Writes(add)[0] = 9
	if !slices.Equal(encode(t, add), []byte{133, 10}) || !slices.Equal(insn.Reads(add), []int{1, 2}) || !slices.Equal(insn.Writes(add), []int{1}) {
		t.Error("two results share memory")
	}
}
