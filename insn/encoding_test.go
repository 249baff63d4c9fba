package insn_test

import (
	"math"
	"slices"
	"testing"

	"tapline/api"
	"tapline/insn"
)

// illFormed returns instructions each of which has one thing wrong.
func illFormed() []api.Insn {
	var out []api.Insn
	for _, op := range []int{math.MinInt, -180, -128, -1, 0, 35, 36, 75, 77, 127, 128, 129, 204, 256 + api.InNop, math.MaxInt} {
		out = append(out, api.Insn{Op: op})
	}
	for _, r := range rows {
		x := api.Insn{Op: r.op}
		for _, n := range []int{math.MinInt, -8, -1, 8, 9, 64, 256, math.MaxInt} {
			out = append(out, api.Insn{Op: r.op, A: n}, api.Insn{Op: r.op, B: n})
		}
		for n := 1; n < 8; n++ {
			if !r.hasA() {
				out = append(out, api.Insn{Op: r.op, A: n})
			}
			if !r.hasB() {
				out = append(out, api.Insn{Op: r.op, B: n})
			}
		}
		if r.op != api.InSet {
			for _, x.Imm = range []int64{r.least - 1, r.most + 1, math.MinInt64, math.MaxInt64} {
				out = append(out, x)
			}
		}
	}
	return out
}

// P2.1, I1: every operation with each register, Imm at the bounds, and one beyond each.
func TestCheckAndLen(t *testing.T) {
	for _, x := range everyInsn() {
		if e := insn.Check(x); e != api.OK {
			t.Errorf("Check(%v) = %d", x, e)
		}
		if n, e := insn.Len(x); n != rowOf(x.Op).length() || e != api.OK {
			t.Errorf("Len(%v) = %d, %d", x, n, e)
		}
	}
}

// P2.1: an instruction that is not well-formed is refused everywhere.
func TestIllFormed(t *testing.T) {
	for _, x := range illFormed() {
		if e := insn.Check(x); e != api.ErrInsn {
			t.Errorf("Check(%v) = %d", x, e)
		}
		if n, e := insn.Len(x); n != 0 || e != api.ErrInsn {
			t.Errorf("Len(%v) = %d, %d", x, n, e)
		}
		if b, e := insn.Encode(x); len(b) != 0 || e != api.ErrInsn {
			t.Errorf("Encode(%v) = %v, %d", x, b, e)
		}
		if s, e := insn.Print(x); s != "" || e != api.ErrInsn {
			t.Errorf("Print(%v) = %q, %d", x, s, e)
		}
		if to, ok := insn.Target(x, 100); to != 0 || ok {
			t.Errorf("Target(%v) = %d, %v", x, to, ok)
		}
		if insn.Relative(x) || len(insn.Reads(x)) != 0 || len(insn.Writes(x)) != 0 {
			t.Errorf("%v is relative, or reads or writes a register", x)
		}
	}
}

// P2.1, I2: the bytes of the table.
func TestEncode(t *testing.T) {
	for _, c := range []struct {
		x    api.Insn
		want []byte
	}{
		{api.Insn{Op: api.InNop}, []byte{129}},
		{api.Insn{Op: api.InMove, A: 1, B: 2}, []byte{130, 10}},
		{api.Insn{Op: api.InSet, A: 7, Imm: 1}, []byte{131, 7, 1, 0, 0, 0, 0, 0, 0, 0, 0, 0}},
		{api.Insn{Op: api.InSet, Imm: -1}, []byte{131, 0, 127, 127, 127, 127, 127, 127, 127, 127, 127, 127}},
		{api.Insn{Op: api.InSet, A: 1, Imm: math.MaxInt64}, []byte{131, 1, 127, 127, 127, 127, 127, 127, 127, 127, 127, 0}},
		{api.Insn{Op: api.InSet, A: 1, Imm: math.MinInt64}, []byte{131, 1, 0, 0, 0, 0, 0, 0, 0, 0, 0, 127}},
		{api.Insn{Op: api.InLit, A: 5, Imm: -64}, []byte{132, 5, 64}},
		{api.Insn{Op: api.InLit, A: 5, Imm: 63}, []byte{132, 5, 63}},
		{api.Insn{Op: api.InSar, A: 7, B: 7}, []byte{143, 63}},
		{api.Insn{Op: api.InInc, A: 3, Imm: -1}, []byte{144, 3, 127}},
		{api.Insn{Op: api.InLoad1, A: 0, B: 7, Imm: 2}, []byte{145, 7, 2}},
		{api.Insn{Op: api.InStore8, A: 7, B: 0, Imm: -2}, []byte{148, 56, 126}},
		{api.Insn{Op: api.InBge, A: 1, B: 3, Imm: -3}, []byte{152, 11, 125}},
		{api.Insn{Op: api.InJump, Imm: 200}, []byte{153, 72, 1}},
		{api.Insn{Op: api.InJump, Imm: 8191}, []byte{153, 127, 63}},
		{api.Insn{Op: api.InCall, Imm: -8192}, []byte{155, 0, 64}},
		{api.Insn{Op: api.InCall, Imm: -1}, []byte{155, 127, 127}},
		{api.Insn{Op: api.InPop, A: 6}, []byte{159, 6}},
		{api.Insn{Op: api.InLea, A: 2, Imm: 128}, []byte{160, 2, 0, 1}},
		{api.Insn{Op: api.InSys, Imm: 127}, []byte{161, 127}},
		{api.Insn{Op: api.InSwap, A: 7}, []byte{162, 56}},
		{api.Insn{Op: api.InBreak}, []byte{204}},
	} {
		if b, e := insn.Encode(c.x); !slices.Equal(b, c.want) || e != api.OK {
			t.Errorf("Encode(%v) = %v, %d; want %v", c.x, b, e, c.want)
		}
	}
	for _, x := range everyInsn() {
		if b, e := insn.Encode(x); !slices.Equal(b, modelEncode(x)) || e != api.OK {
			t.Errorf("Encode(%v) = %v, %d; want %v", x, b, e, modelEncode(x))
		}
	}
}

func decodesAs(t *testing.T, b []byte, x api.Insn, n int, e api.Errno) {
	t.Helper()
	if y, m, f := insn.Decode(b); y != x || m != n || f != e {
		t.Errorf("Decode(%v) = %v, %d, %d; want %v, %d, %d", b, y, m, f, x, n, e)
	}
}

// P2.1, I2: the error is that of the first byte that is missing or wrong.
func TestDecodeExamples(t *testing.T) {
	decodesAs(t, []byte{130, 10, 204}, api.Insn{Op: api.InMove, A: 1, B: 2}, 2, api.OK)
	decodesAs(t, []byte{161, 64}, api.Insn{Op: api.InSys, Imm: 64}, 2, api.OK)
	for _, c := range []struct {
		b    []byte
		want api.Errno
	}{
		{nil, api.ErrShort}, {[]byte{130}, api.ErrShort}, {[]byte{160, 7, 127}, api.ErrShort}, {[]byte{131, 7, 0, 0, 0, 0, 0, 0, 0, 0, 127}, api.ErrShort},
		{[]byte{10}, api.ErrInsn}, {[]byte{0, 129}, api.ErrInsn}, {[]byte{127}, api.ErrInsn}, {[]byte{128}, api.ErrInsn}, {[]byte{163}, api.ErrInsn}, {[]byte{203}, api.ErrInsn}, {[]byte{205}, api.ErrInsn}, {[]byte{255}, api.ErrInsn},
		{[]byte{130, 64}, api.ErrInsn}, {[]byte{159, 8}, api.ErrInsn}, {[]byte{145, 64}, api.ErrInsn}, {[]byte{160, 8}, api.ErrInsn}, {[]byte{145, 63, 128}, api.ErrInsn}, {[]byte{153, 0, 128}, api.ErrInsn}, {[]byte{161, 128}, api.ErrInsn},
		{[]byte{131, 7, 0, 0, 0, 0, 0, 0, 0, 0, 0, 1}, api.ErrInsn}, {[]byte{131, 7, 0, 0, 0, 0, 0, 0, 0, 0, 0, 126}, api.ErrInsn}, {[]byte{131, 7, 0, 0, 0, 0, 0, 0, 0, 0, 0, 63}, api.ErrInsn}, {[]byte{131, 7, 0, 0, 0, 0, 0, 0, 0, 0, 0, 64}, api.ErrInsn},
	} {
		decodesAs(t, c.b, api.Insn{}, 0, c.want)
	}
}

// P2.1, I2: every byte at each place of every encoding, and every beginning of it.
func TestDecodeAtEachPlace(t *testing.T) {
	for _, r := range rows {
		x := api.Insn{Op: r.op}
		for _, x.Imm = range []int64{r.least, 0, r.most} {
			whole := modelEncode(x)
			for i := range whole {
				decodesAs(t, whole[:i], api.Insn{}, 0, api.ErrShort)
				for c := range 256 {
					b := slices.Clone(whole)
					b[i] = byte(c)
					y, n, e := modelDecode(b)
					decodesAs(t, b, y, n, e)
					y, n, e = modelDecode(b[:i+1])
					decodesAs(t, b[:i+1], y, n, e)
				}
			}
		}
	}
	for c := range 256 {
		for d := range 256 {
			b := []byte{byte(c), byte(d), 5, 127}
			y, n, e := modelDecode(b)
			decodesAs(t, b, y, n, e)
		}
	}
}

// P2.1: Decode leaves its argument as it is.
func TestDecodeKeepsItsArgument(t *testing.T) {
	b := []byte{130, 10, 204}
	insn.Decode(b)
	insn.Sweep(b)
	insn.Disassemble(b, 0, nil)
	if !slices.Equal(b, []byte{130, 10, 204}) {
		t.Errorf("the argument has become %v", b)
	}
}

// P2.1, I3.
func TestSweep(t *testing.T) {
	list, offsets, e := insn.Sweep([]byte{144, 0, 1, 204, 153, 122, 127, 130, 10})
	if !slices.Equal(list, []api.Insn{{Op: api.InInc, Imm: 1}, {Op: api.InBreak}, {Op: api.InJump, Imm: -6}, {Op: api.InMove, A: 1, B: 2}}) || !slices.Equal(offsets, []int{0, 3, 4, 7}) || e != api.OK {
		t.Errorf("Sweep = %v, %v, %d", list, offsets, e)
	}
	for _, c := range []struct {
		b    []byte
		want api.Errno
	}{
		{nil, api.OK}, {[]byte{}, api.OK}, {[]byte{129, 130}, api.ErrShort}, {[]byte{129, 10}, api.ErrInsn}, {[]byte{130, 129, 130}, api.ErrInsn}, {[]byte{129, 128, 130}, api.ErrInsn},
		{slices.Repeat([]byte{129}, 2049), api.ErrLong}, {slices.Repeat([]byte{0}, 2049), api.ErrLong}, {append(slices.Repeat([]byte{129}, 2047), 130), api.ErrShort},
	} {
		if l, o, e := insn.Sweep(c.b); len(l) != 0 || len(o) != 0 || e != c.want {
			t.Errorf("Sweep(%.5v of %d) = %d instructions, %d offsets, %d; want %d", c.b, len(c.b), len(l), len(o), e, c.want)
		}
	}
	if l, o, e := insn.Sweep(slices.Repeat([]byte{129}, 2048)); len(l) != 2048 || len(o) != 2048 || o[2047] != 2047 || e != api.OK {
		t.Errorf("Sweep of MaxCode bytes = %d instructions, %d offsets, %d", len(l), len(o), e)
	}
}

// P2.1, I7.
func TestTargetAndRelative(t *testing.T) {
	targets := []int{api.InBeq, api.InBne, api.InBlt, api.InBge, api.InJump, api.InCall, api.InLea}
	for _, x := range everyInsn() {
		want, has := int64(0), slices.Contains(targets, x.Op)
		if has {
			want = 1000 + x.Imm
		}
		if to, ok := insn.Target(x, 1000); to != want || ok != has {
			t.Errorf("Target(%v, 1000) = %d, %v; want %d, %v", x, to, ok, want, has)
		}
		if got := insn.Relative(x); got != (has || x.Op == api.InCallR) {
			t.Errorf("Relative(%v) = %v", x, got)
		}
	}
	for _, c := range []struct{ imm, next, want int64 }{{5, math.MaxInt64, math.MinInt64 + 4}, {-5, math.MinInt64, math.MaxInt64 - 4}, {0, -1, -1}, {-1, 0, -1}, {8191, 1 << 40, 1<<40 + 8191}} {
		if to, ok := insn.Target(api.Insn{Op: api.InJump, Imm: c.imm}, c.next); to != c.want || !ok {
			t.Errorf("Target of a jump by %d at %d = %d, %v; want %d", c.imm, c.next, to, ok, c.want)
		}
	}
}

// P2.1, I8: which of A, B and the stack pointer S an operation reads and writes.
func TestReadsAndWrites(t *testing.T) {
	both := map[int][2]string{
		api.InNop: {"", ""}, api.InMove: {"B", "A"}, api.InSet: {"", "A"}, api.InLit: {"", "A"}, api.InAdd: {"AB", "A"}, api.InSub: {"AB", "A"}, api.InMul: {"AB", "A"}, api.InDiv: {"AB", "A"}, api.InMod: {"AB", "A"},
		api.InAnd: {"AB", "A"}, api.InOr: {"AB", "A"}, api.InXor: {"AB", "A"}, api.InShl: {"AB", "A"}, api.InShr: {"AB", "A"}, api.InSar: {"AB", "A"}, api.InInc: {"A", "A"}, api.InLoad1: {"B", "A"}, api.InLoad8: {"B", "A"},
		api.InStore1: {"AB", ""}, api.InStore8: {"AB", ""}, api.InBeq: {"AB", ""}, api.InBne: {"AB", ""}, api.InBlt: {"AB", ""}, api.InBge: {"AB", ""}, api.InJump: {"", ""}, api.InJumpR: {"A", ""}, api.InCall: {"S", "S"}, api.InCallR: {"AS", "S"},
		api.InRet: {"S", "S"}, api.InPush: {"AS", "S"}, api.InPop: {"S", "AS"}, api.InLea: {"", "A"}, api.InSys: {"", ""}, api.InSwap: {"AB", "A"}, api.InBreak: {"", ""},
	}
	for _, x := range everyInsn() {
		named := func(letters string) []int {
			var out []int
			for _, k := range letters {
				out = append(out, map[rune]int{'A': x.A, 'B': x.B, 'S': 7}[k])
			}
			slices.Sort(out)
			return slices.Compact(out)
		}
		want := both[x.Op]
		if got := insn.Reads(x); !slices.Equal(got, named(want[0])) {
			t.Errorf("Reads(%v) = %v", x, got)
		}
		if got := insn.Writes(x); !slices.Equal(got, named(want[1])) {
			t.Errorf("Writes(%v) = %v", x, got)
		}
	}
}
