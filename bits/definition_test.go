package bits_test

import (
	"bytes"
	"math"
	"math/big"
	"strings"
	"testing"

	"tapline/api"
	"tapline/bits"
)

// P1.1: types.

func TestCheck(t *testing.T) {
	for _, x := range allTypes {
		if e := bits.Check(x); e != api.OK {
			t.Errorf("Check(%v) = %d", x, e)
		}
	}
	for _, x := range invalidTypes() {
		if e := bits.Check(x); e != api.ErrInt {
			t.Errorf("Check(%v) = %d", x, e)
		}
	}
}

func TestWrap(t *testing.T) {
	for _, x := range []struct {
		t       api.Int
		v, want int64
	}{
		{i1, 200, -56}, {u1, -1, 255}, {u8, -1, -1}, {i1, 127, 127}, {i1, 128, -128}, {i1, -129, 127}, {u1, 256, 0}, {u1, 511, 255},
		{i2, 32768, -32768}, {u2, -1, 65535}, {i4, 1 << 31, -1 << 31}, {u4, -1, 1<<32 - 1}, {u4, 1 << 32, 0}, {i8, math.MinInt64, math.MinInt64}, {u8, math.MinInt64, math.MinInt64},
	} {
		if got, e := bits.Wrap(x.t, x.v); got != x.want || e != api.OK {
			t.Errorf("Wrap(%v, %d) = %d, %d; want %d", x.t, x.v, got, e, x.want)
		}
	}
	for _, x := range allTypes {
		for _, v := range patterns() {
			if got, e := bits.Wrap(x, v); got != modelWrap(x, v) || e != api.OK {
				t.Errorf("Wrap(%v, %d) = %d, %d; want %d", x, v, got, e, modelWrap(x, v))
			}
		}
	}
}

func TestRange(t *testing.T) {
	for _, x := range []struct {
		t               api.Int
		least, greatest int64
	}{
		{i1, -128, 127}, {u1, 0, 255}, {i2, -32768, 32767}, {u2, 0, 65535}, {i4, math.MinInt32, math.MaxInt32}, {u4, 0, math.MaxUint32}, {i8, math.MinInt64, math.MaxInt64}, {u8, 0, -1},
	} {
		if lo, hi, e := bits.Range(x.t); lo != x.least || hi != x.greatest || e != api.OK {
			t.Errorf("Range(%v) = %d, %d, %d; want %d, %d", x.t, lo, hi, e, x.least, x.greatest)
		}
	}
}

func TestPromote(t *testing.T) {
	for _, x := range []struct{ t, want api.Int }{{i1, i4}, {u1, i4}, {i2, i4}, {u2, i4}, {i4, i4}, {u4, u4}, {i8, i8}, {u8, u8}} {
		if got, e := bits.Promote(x.t); got != x.want || e != api.OK {
			t.Errorf("Promote(%v) = %v, %d; want %v", x.t, got, e, x.want)
		}
	}
}

func TestUsual(t *testing.T) {
	for _, a := range allTypes {
		for _, b := range allTypes {
			if got, e := bits.Usual(a, b); got != modelUsual(a, b) || e != api.OK {
				t.Errorf("Usual(%v, %v) = %v, %d; want %v", a, b, got, e, modelUsual(a, b))
			}
		}
	}
}

func TestConvert(t *testing.T) {
	for _, x := range []struct {
		from, to api.Int
		v, want  int64
	}{
		{u1, i8, -1, 255}, {i1, u8, 255, -1}, {i1, u4, 200, 1<<32 - 56}, {u4, i4, -1, -1}, {i8, u1, 257, 1}, {u2, i1, 65535, -1}, {i1, u2, 300, 44}, {u1, i8, 300, 44},
	} {
		if got, e := bits.Convert(x.from, x.to, x.v); got != x.want || e != api.OK {
			t.Errorf("Convert(%v, %v, %d) = %d, %d; want %d", x.from, x.to, x.v, got, e, x.want)
		}
	}
	for _, from := range allTypes {
		for _, to := range allTypes {
			for _, v := range patterns() {
				want := modelWrap(to, modelWrap(from, v))
				if got, e := bits.Convert(from, to, v); got != want || e != api.OK {
					t.Errorf("Convert(%v, %v, %d) = %d, %d; want %d", from, to, v, got, e, want)
				}
			}
		}
	}
}

// P1.1: operations.

func TestUnary(t *testing.T) {
	for _, x := range []struct {
		op   int
		t    api.Int
		v    int64
		want api.Int
		n    int64
	}{
		{api.UnNot, u1, 0, i4, -1}, {api.UnNeg, u1, 255, i4, -255}, {api.UnNeg, u4, 1, u4, 1<<32 - 1}, {api.UnNeg, i4, math.MinInt32, i4, math.MinInt32}, {api.UnNeg, i8, math.MinInt64, i8, math.MinInt64},
		{api.UnNeg, u8, 1, u8, -1}, {api.UnNot, u4, 0, u4, 1<<32 - 1}, {api.UnLog, u8, 0, i4, 1}, {api.UnLog, u8, -1, i4, 0}, {api.UnLog, u1, 256, i4, 1}, {api.UnLog, i2, 1, i4, 0}, {api.UnNeg, i1, 128, i4, 128},
	} {
		if w, n, e := bits.Unary(x.op, x.t, x.v); w != x.want || n != x.n || e != api.OK {
			t.Errorf("Unary(%d, %v, %d) = %v, %d, %d; want %v, %d", x.op, x.t, x.v, w, n, e, x.want, x.n)
		}
	}
	for _, op := range []int{api.UnNeg, api.UnNot, api.UnLog} {
		for _, x := range allTypes {
			for _, v := range patterns() {
				want, n := modelUnary(op, x, v)
				if w, m, e := bits.Unary(op, x, v); w != want || m != n || e != api.OK {
					t.Errorf("Unary(%d, %v, %d) = %v, %d, %d; want %v, %d", op, x, v, w, m, e, want, n)
				}
			}
		}
	}
}

func TestBinaryExamples(t *testing.T) {
	for _, x := range []struct {
		op   int
		ta   api.Int
		a    int64
		tb   api.Int
		b    int64
		want api.Int
		v    int64
	}{
		{api.BiLt, i4, -1, u4, 1, i4, 0}, {api.BiAdd, u1, 255, u1, 1, i4, 256}, {api.BiDiv, i4, -7, i4, 2, i4, -3}, {api.BiMod, i4, -7, i4, 2, i4, -1},
		{api.BiMod, i4, 7, i4, -2, i4, 1}, {api.BiShl, i4, 1, i4, 33, i4, 2}, {api.BiShr, i4, -5, i4, 1, i4, -3},
		{api.BiDiv, i4, math.MinInt32, i4, -1, i4, math.MinInt32}, {api.BiMod, i4, math.MinInt32, i4, -1, i4, 0},
		{api.BiDiv, i8, math.MinInt64, i8, -1, i8, math.MinInt64}, {api.BiMod, i8, math.MinInt64, i1, -1, i8, 0},
		{api.BiDiv, i1, -128, i1, -1, i4, 128}, {api.BiDiv, u8, -1, u8, 2, u8, math.MaxInt64}, {api.BiMod, u8, -1, u8, 10, u8, 5}, {api.BiDiv, u8, 1, u8, -1, u8, 0},
		{api.BiShl, i4, 1, i4, -1, i4, math.MinInt32}, {api.BiShl, u8, 1, i4, -1, u8, math.MinInt64}, {api.BiShr, u8, -1, i4, -1, u8, 1}, {api.BiShr, i8, -1, u1, 255, i8, -1},
		{api.BiShl, u1, 255, u8, 8, i4, 65280}, {api.BiShl, u4, 1, i8, 32, u4, 1}, {api.BiShr, u4, -1, u8, -1, u4, 1}, {api.BiShr, i1, -1, i1, 31, i4, -1}, {api.BiShl, i4, 1, u1, 257, i4, 2},
		{api.BiLt, u8, -1, i8, 0, i4, 0}, {api.BiGt, u8, -1, i8, 0, i4, 1}, {api.BiEq, i4, -1, u4, math.MaxUint32, i4, 1}, {api.BiEq, i4, -1, u8, -1, i4, 1}, {api.BiNe, u4, math.MaxUint32, i8, -1, i4, 1}, {api.BiLe, i1, 200, u1, 0, i4, 1},
		{api.BiSub, u4, 0, i1, 1, u4, math.MaxUint32}, {api.BiMul, i4, 65536, i4, 65536, i4, 0}, {api.BiXor, i1, -1, u4, 1, u4, math.MaxUint32 - 1},
	} {
		if w, v, e := bits.Binary(x.op, x.ta, x.a, x.tb, x.b); w != x.want || v != x.v || e != api.OK {
			t.Errorf("Binary(%d, %v, %d, %v, %d) = %v, %d, %d; want %v, %d", x.op, x.ta, x.a, x.tb, x.b, w, v, e, x.want, x.v)
		}
	}
}

func TestBinaryAtEveryPairOfTypes(t *testing.T) {
	list := shortPatterns()
	for op := api.BiAdd; op <= api.BiNe; op++ {
		for _, ta := range allTypes {
			for _, tb := range allTypes {
				for _, a := range list {
					for _, b := range list {
						compareBinary(t, op, ta, a, tb, b)
					}
				}
			}
		}
	}
}

func compareBinary(t *testing.T, op int, ta api.Int, a int64, tb api.Int, b int64) {
	want, v, e := modelBinary(op, ta, a, tb, b)
	if w, u, f := bits.Binary(op, ta, a, tb, b); w != want || u != v || f != e {
		t.Errorf("Binary(%d, %v, %d, %v, %d) = %v, %d, %d; want %v, %d, %d", op, ta, a, tb, b, w, u, f, want, v, e)
	}
}

func TestCountsOfShifts(t *testing.T) {
	for _, op := range []int{api.BiShl, api.BiShr} {
		for _, ta := range allTypes {
			for _, tb := range allTypes {
				for _, a := range []int64{1, -1, 0x5555555555555555, math.MinInt64, 1 << 31} {
					for b := int64(-130); b <= 260; b++ {
						compareBinary(t, op, ta, a, tb, b)
					}
				}
			}
		}
	}
}

func TestCompare(t *testing.T) {
	for _, x := range []struct {
		t    api.Int
		a, b int64
		want int
	}{
		{i8, -1, 1, -1}, {u8, -1, 1, 1}, {u8, 1, -1, -1}, {u8, -2, -1, -1}, {i1, 128, 127, -1}, {u1, 256, 0, 0}, {u4, -1, 0, 1}, {i4, 5, 5, 0}, {u8, math.MinInt64, math.MaxInt64, 1}, {i8, math.MinInt64, math.MaxInt64, -1},
	} {
		if got, e := bits.Compare(x.t, x.a, x.b); got != x.want || e != api.OK {
			t.Errorf("Compare(%v, %d, %d) = %d, %d; want %d", x.t, x.a, x.b, got, e, x.want)
		}
	}
	for _, x := range allTypes {
		for _, a := range patterns() {
			for _, b := range patterns() {
				want := modelNumber(x, a).Cmp(modelNumber(x, b))
				if got, e := bits.Compare(x, a, b); got != want || e != api.OK {
					t.Errorf("Compare(%v, %d, %d) = %d, %d; want %d", x, a, b, got, e, want)
				}
			}
		}
	}
}

// P1.1: bytes and text.

func TestBytes(t *testing.T) {
	for _, x := range []struct {
		t    api.Int
		v    int64
		want []byte
	}{
		{i1, -2, []byte{254}}, {u2, 0x10203, []byte{3, 2}}, {i4, -2, []byte{254, 255, 255, 255}}, {u4, 0x1020304, []byte{4, 3, 2, 1}},
		{i8, 0x0102030405060708, []byte{8, 7, 6, 5, 4, 3, 2, 1}}, {u8, math.MinInt64, []byte{0, 0, 0, 0, 0, 0, 0, 128}},
	} {
		if got, e := bits.Bytes(x.t, x.v); !bytes.Equal(got, x.want) || e != api.OK {
			t.Errorf("Bytes(%v, %d) = %v, %d; want %v", x.t, x.v, got, e, x.want)
		}
	}
	first, _ := bits.Bytes(i4, 1)
	first[0] = 9
	if second, _ := bits.Bytes(i4, 1); second[0] != 1 {
		t.Errorf("two results of Bytes share memory: %v", second)
	}
}

func TestFromBytes(t *testing.T) {
	for _, x := range []struct {
		t    api.Int
		b    []byte
		want int64
	}{
		{i1, []byte{254}, -2}, {u1, []byte{254}, 254}, {i2, []byte{0, 128}, -32768}, {u2, []byte{0, 128}, 32768}, {i4, []byte{254, 255, 255, 255}, -2}, {u4, []byte{4, 3, 2, 129}, 0x81020304},
		{i8, []byte{8, 7, 6, 5, 4, 3, 2, 1}, 0x0102030405060708}, {u8, []byte{255, 255, 255, 255, 255, 255, 255, 255}, -1},
	} {
		given := bytes.Clone(x.b)
		if got, e := bits.FromBytes(x.t, x.b); got != x.want || e != api.OK || !bytes.Equal(x.b, given) {
			t.Errorf("FromBytes(%v, %v) = %d, %d; want %d", x.t, given, got, e, x.want)
		}
	}
	for _, x := range allTypes {
		for n := 0; n <= 17; n++ {
			v, e := bits.FromBytes(x, bytes.Repeat([]byte{255}, n))
			if n != x.Size && (v != 0 || e != api.ErrArg) {
				t.Errorf("FromBytes(%v, %d bytes) = %d, %d", x, n, v, e)
			}
		}
		if v, e := bits.FromBytes(x, nil); v != 0 || e != api.ErrArg {
			t.Errorf("FromBytes(%v, nil) = %d, %d", x, v, e)
		}
	}
}

func TestText(t *testing.T) {
	for _, x := range []struct {
		t    api.Int
		v    int64
		want string
	}{
		{u8, -1, "18446744073709551615"}, {i8, -1, "-1"}, {i8, math.MinInt64, "-9223372036854775808"}, {u8, math.MinInt64, "9223372036854775808"}, {i1, 200, "-56"}, {u1, -1, "255"}, {u1, 256, "0"}, {i4, 0, "0"}, {u4, 1000, "1000"}, {i2, 10, "10"}, {i2, 9, "9"},
	} {
		if got, e := bits.Text(x.t, x.v); got != x.want || e != api.OK {
			t.Errorf("Text(%v, %d) = %q, %d; want %q", x.t, x.v, got, e, x.want)
		}
	}
	for _, x := range allTypes {
		for _, v := range patterns() {
			if got, e := bits.Text(x, v); got != modelNumber(x, v).String() || e != api.OK {
				t.Errorf("Text(%v, %d) = %q, %d; want %v", x, v, got, e, modelNumber(x, v))
			}
		}
	}
}

func TestParse(t *testing.T) {
	for _, x := range []struct {
		t    api.Int
		s    string
		want int64
	}{
		{u8, "0xffffffffffffffff", -1}, {u8, "18446744073709551615", -1}, {i8, "-9223372036854775808", math.MinInt64}, {i8, "9223372036854775807", math.MaxInt64}, {u8, "9223372036854775808", math.MinInt64},
		{i1, "127", 127}, {i1, "-128", -128}, {u1, "0", 0}, {u1, "0x0", 0}, {u1, "0xff", 255}, {u1, "0xFf", 255}, {i4, "0x00000000000000ab", 0xab}, {i4, "0x00000000000000AB", 0xab}, {u8, "0x123456789abcdef0", 0x123456789abcdef0},
		{u8, "0x0FEDCBA987654321", 0x0fedcba987654321}, {i8, "0x7fffffffffffffff", math.MaxInt64}, {i4, "10", 10}, {i4, "-1", -1}, {u2, "0x0", 0},
	} {
		if got, e := bits.Parse(x.t, x.s); got != x.want || e != api.OK {
			t.Errorf("Parse(%v, %q) = %d, %d; want %d", x.t, x.s, got, e, x.want)
		}
	}
}

func TestParseOfOtherForms(t *testing.T) {
	forms := []string{
		"", "-", "+", "+1", "-0", "--1", "00", "007", "-07", "-00", " 1", "1 ", "1\n", "1_0", "1.0", "1e2", "a", "1a", "f", "1f", "one", "0b1", "0o7", "\x00", "1\x00", "١", "1/", "1:", "/", ":",
		"0x", "0X1", "0xg", "0x/", "0x:", "0x@", "0xG", "0x`", "0x 1", "0x1 ", "0x-1", "-0x1", "+0x1", "0x0x1", "x1", "0x00000000000000000", "0x00000000000000001", "00x1", "0x1_0",
		"18446744073709551616", "18446744073709551617", "-18446744073709551615", "-18446744073709551616", "36893488147419103232", "184467440737095516150", "18446744073709551620", "-9223372036854775809", "100000000000000000000",
		strings.Repeat("0", 20), strings.Repeat("9", 1<<16), "-" + strings.Repeat("1", 1<<16), "0x" + strings.Repeat("0", 1<<16), "0x1" + strings.Repeat("0", 16),
	}
	for _, x := range allTypes {
		for _, s := range forms {
			if v, e := bits.Parse(x, s); v != 0 || e != api.ErrText {
				t.Errorf("Parse(%v, %.40q) = %d, %d; want ErrText", x, s, v, e)
			}
		}
	}
}

func TestParseAtBounds(t *testing.T) {
	for _, x := range allTypes {
		for _, y := range allTypes {
			lo, hi, _ := bits.Range(y)
			for _, bound := range []int64{lo, hi} {
				for d := int64(-2); d <= 2; d++ {
					n := new(big.Int).Add(modelNumber(y, bound), big.NewInt(d))
					checkParse(t, x, n.String(), n)
					if n.Sign() >= 0 && n.BitLen() <= 64 {
						checkParse(t, x, "0x"+n.Text(16), n)
						checkParse(t, x, "0x"+strings.ToUpper(n.Text(16)), n)
					}
				}
			}
		}
	}
}

func checkParse(t *testing.T, x api.Int, s string, n *big.Int) {
	want, fail := stored(n), api.OK
	if !hasNumber(x, n) {
		want, fail = 0, api.ErrText
	}
	if v, e := bits.Parse(x, s); v != want || e != fail {
		t.Errorf("Parse(%v, %q) = %d, %d; want %d, %d", x, s, v, e, want, fail)
	}
}

func TestEveryDigit(t *testing.T) {
	for c := 0; c < 256; c++ {
		s := string([]byte{byte(c)})
		for _, x := range []struct {
			s      string
			digits string
		}{{s, "0123456789"}, {"1" + s, "0123456789"}, {"0x" + s, "0123456789abcdefABCDEF"}, {"0x1" + s, "0123456789abcdefABCDEF"}} {
			at := strings.Index(x.digits, s)
			v, e := bits.Parse(u8, x.s)
			if at < 0 {
				if v != 0 || e != api.ErrText {
					t.Errorf("Parse(u8, %q) = %d, %d; want ErrText", x.s, v, e)
				}
				continue
			}
			want, _ := new(big.Int).SetString(x.s, 0)
			if v != want.Int64() || e != api.OK {
				t.Errorf("Parse(u8, %q) = %d, %d; want %v", x.s, v, e, want)
			}
		}
	}
}

// P1.1: errors, the one named first, and zero values with them.

func TestInvalidTypesOfOneType(t *testing.T) {
	zero := api.Int{}
	for _, x := range invalidTypes() {
		if v, e := bits.Wrap(x, 5); v != 0 || e != api.ErrInt {
			t.Errorf("Wrap(%v) = %d, %d", x, v, e)
		}
		if lo, hi, e := bits.Range(x); lo != 0 || hi != 0 || e != api.ErrInt {
			t.Errorf("Range(%v) = %d, %d, %d", x, lo, hi, e)
		}
		if w, e := bits.Promote(x); w != zero || e != api.ErrInt {
			t.Errorf("Promote(%v) = %v, %d", x, w, e)
		}
		if v, e := bits.Compare(x, 1, 2); v != 0 || e != api.ErrInt {
			t.Errorf("Compare(%v) = %d, %d", x, v, e)
		}
		if b, e := bits.Bytes(x, 5); len(b) != 0 || e != api.ErrInt {
			t.Errorf("Bytes(%v) = %v, %d", x, b, e)
		}
		if s, e := bits.Text(x, 5); s != "" || e != api.ErrInt {
			t.Errorf("Text(%v) = %q, %d", x, s, e)
		}
		for _, s := range []string{"5", "", "x"} {
			if v, e := bits.Parse(x, s); v != 0 || e != api.ErrInt {
				t.Errorf("Parse(%v, %q) = %d, %d", x, s, v, e)
			}
		}
		for _, b := range [][]byte{nil, {1}, {1, 2, 3}, {1, 2, 3, 4}} {
			if v, e := bits.FromBytes(x, b); v != 0 || e != api.ErrInt {
				t.Errorf("FromBytes(%v, %v) = %d, %d", x, b, v, e)
			}
		}
		for _, op := range []int{api.UnNeg, api.UnNot, api.UnLog, 0, -1, 4} {
			if w, v, e := bits.Unary(op, x, 5); w != zero || v != 0 || e != api.ErrInt {
				t.Errorf("Unary(%d, %v) = %v, %d, %d", op, x, w, v, e)
			}
		}
	}
}

func TestInvalidTypesOfTwoTypes(t *testing.T) {
	zero := api.Int{}
	for _, bad := range invalidTypes() {
		for _, good := range append([]api.Int{bad}, allTypes...) {
			for _, p := range [][2]api.Int{{bad, good}, {good, bad}} {
				if w, e := bits.Usual(p[0], p[1]); w != zero || e != api.ErrInt {
					t.Errorf("Usual(%v, %v) = %v, %d", p[0], p[1], w, e)
				}
				if v, e := bits.Convert(p[0], p[1], 5); v != 0 || e != api.ErrInt {
					t.Errorf("Convert(%v, %v) = %d, %d", p[0], p[1], v, e)
				}
				for op := -1; op <= api.BiNe+1; op++ {
					if w, v, e := bits.Binary(op, p[0], 5, p[1], 0); w != zero || v != 0 || e != api.ErrInt {
						t.Errorf("Binary(%d, %v, %v) = %v, %d, %d", op, p[0], p[1], w, v, e)
					}
				}
			}
		}
	}
}

func TestOperationsThatAreNone(t *testing.T) {
	zero := api.Int{}
	for _, x := range allTypes {
		for _, op := range []int{math.MinInt, -1, 0, 4, 5, 16, 1 << 32, 1<<32 + 1, math.MaxInt} {
			if w, v, e := bits.Unary(op, x, 5); w != zero || v != 0 || e != api.ErrOper {
				t.Errorf("Unary(%d, %v) = %v, %d, %d", op, x, w, v, e)
			}
		}
		for _, op := range []int{math.MinInt, -1, 0, 17, 18, 32, 1 << 32, 1<<32 + 4, math.MaxInt} {
			if w, v, e := bits.Binary(op, x, 5, x, 0); w != zero || v != 0 || e != api.ErrOper {
				t.Errorf("Binary(%d, %v) = %v, %d, %d", op, x, w, v, e)
			}
		}
	}
}

// P1.1: values that are no bounds of anything.
func TestScatteredValues(t *testing.T) {
	list := scattered(6000)
	for i, a := range list {
		b := list[(i+1)%len(list)]
		ta, tb := allTypes[i%8], allTypes[i/8%8]
		for op := api.BiAdd; op <= api.BiNe; op++ {
			compareBinary(t, op, ta, a, tb, b)
		}
		n := modelNumber(ta, a)
		checkParse(t, tb, n.String(), n)
		if s, e := bits.Text(ta, a); s != n.String() || e != api.OK {
			t.Errorf("Text(%v, %d) = %q, %d; want %v", ta, a, s, e, n)
		}
		raw, e := bits.Bytes(ta, a)
		for k := range ta.Size {
			if e != api.OK || len(raw) != ta.Size || raw[k] != byte(a>>(8*k)) {
				t.Fatalf("Bytes(%v, %d) = %v, %d", ta, a, raw, e)
			}
		}
		if v, e := bits.FromBytes(ta, raw); v != stored(n) || e != api.OK {
			t.Errorf("FromBytes(%v, %v) = %d, %d; want %v", ta, raw, v, e, n)
		}
	}
}
