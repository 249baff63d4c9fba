package bits_test

import (
	"bytes"
	"math/big"
	"testing"

	"tapline/api"
	"tapline/bits"
)

func wrap(t *testing.T, x api.Int, v int64) int64 {
	t.Helper()
	w, e := bits.Wrap(x, v)
	if e != api.OK {
		t.Fatalf("Wrap(%v, %d): %d", x, v, e)
	}
	return w
}

// apply applies an operation to two operands of one type.
func apply(t *testing.T, op int, x api.Int, a, b int64) (api.Int, int64) {
	t.Helper()
	w, v, e := bits.Binary(op, x, a, x, b)
	if e != api.OK {
		t.Fatalf("Binary(%d, %v, %d, %v, %d): %d", op, x, a, x, b, e)
	}
	return w, v
}

// P1.2: a smaller type may be wrapped to before or after an operation.
func TestRingOfSmallerTypes(t *testing.T) {
	for _, c := range allTypes {
		for _, small := range allTypes {
			if small.Size > c.Size {
				continue
			}
			for _, op := range ringOps {
				for _, a := range shortPatterns() {
					for _, b := range shortPatterns() {
						_, late := apply(t, op, c, a, b)
						_, early := apply(t, op, small, wrap(t, small, a), wrap(t, small, b))
						if wrap(t, small, late) != wrap(t, small, early) {
							t.Errorf("operation %d of %v on %d and %d, wrapped to %v: %d late, %d early", op, c, a, b, small, late, early)
						}
					}
				}
			}
		}
	}
}

// P1.2: the operations commute, and BiSub undoes BiAdd.
func TestRingOfTwoOperands(t *testing.T) {
	for _, c := range allTypes {
		for _, a := range patterns() {
			for _, b := range patterns() {
				for _, op := range ringOps {
					w, ab := apply(t, op, c, a, b)
					u, ba := apply(t, op, c, b, a)
					if op != api.BiSub && (w != u || ab != ba) {
						t.Errorf("operation %d of %v does not commute on %d and %d: %d, %d", op, c, a, b, ab, ba)
					}
				}
				w, sum := apply(t, api.BiAdd, c, a, b)
				u, back, e := bits.Binary(api.BiSub, w, sum, c, b)
				if u != w || back != wrap(t, w, wrap(t, c, a)) || e != api.OK {
					t.Errorf("%d + %d - %d of %v is %d of %v, %d", a, b, b, c, back, u, e)
				}
			}
		}
	}
	if _, v := apply(t, api.BiSub, i4, 3, 5); v != -2 {
		t.Errorf("3 - 5 = %d", v)
	}
}

// P1.2: the operations are associative in a promoted type.
func TestRingOfThreeOperands(t *testing.T) {
	for _, c := range promotedTypes {
		for _, op := range ringOps {
			if op == api.BiSub {
				continue
			}
			for _, x := range shortPatterns() {
				for _, y := range shortPatterns() {
					for _, z := range shortPatterns() {
						_, xy := apply(t, op, c, x, y)
						_, left := apply(t, op, c, xy, z)
						_, yz := apply(t, op, c, y, z)
						_, right := apply(t, op, c, x, yz)
						if left != right {
							t.Errorf("operation %d of %v on %d, %d, %d: %d, %d", op, c, x, y, z, left, right)
						}
					}
				}
			}
		}
	}
}

// P1.3
func TestDivision(t *testing.T) {
	for _, ta := range allTypes {
		for _, tb := range allTypes {
			for _, a := range patterns() {
				for _, b := range shortPatterns() {
					checkDivision(t, ta, a, tb, b)
				}
			}
		}
	}
}

func checkDivision(t *testing.T, ta api.Int, a int64, tb api.Int, b int64) {
	t.Helper()
	c, q, e := bits.Binary(api.BiDiv, ta, a, tb, b)
	d, r, f := bits.Binary(api.BiMod, ta, a, tb, b)
	if modelWrap(tb, b) == 0 {
		if c != (api.Int{}) || d != (api.Int{}) || q != 0 || r != 0 || e != api.ErrDivide || f != api.ErrDivide {
			t.Errorf("%d of %v by 0: %v, %d, %d and %v, %d, %d", a, ta, c, q, e, d, r, f)
		}
		return
	}
	if e != api.OK || f != api.OK || c != modelUsual(ta, tb) || d != c {
		t.Errorf("%d of %v by %d of %v: %v, %d and %v, %d", a, ta, b, tb, c, e, d, f)
		return
	}
	dividend, divisor := modelWrap(c, modelWrap(ta, a)), modelWrap(c, modelWrap(tb, b))
	_, product := apply(t, api.BiMul, c, q, divisor)
	if _, sum := apply(t, api.BiAdd, c, product, r); sum != dividend {
		t.Errorf("%v: %d times %d plus %d is %d, not %d", c, q, divisor, r, sum, dividend)
	}
	n, m, rest := modelNumber(c, dividend), modelNumber(c, divisor), modelNumber(c, r)
	if rest.Sign() != 0 && rest.Sign() != n.Sign() || rest.CmpAbs(m) >= 0 {
		t.Errorf("%v: the remainder of %v by %v is %v", c, n, m, rest)
	}
}

// P1.4
func TestCommonType(t *testing.T) {
	usual := func(a, b api.Int) api.Int {
		w, e := bits.Usual(a, b)
		if e != api.OK {
			t.Fatalf("Usual(%v, %v): %d", a, b, e)
		}
		return w
	}
	for _, a := range allTypes {
		p, e := bits.Promote(a)
		if again, f := bits.Promote(p); usual(a, a) != p || again != p || e != api.OK || f != api.OK {
			t.Errorf("%v: promoted %v, twice %v, with itself %v", a, p, again, usual(a, a))
		}
		for _, b := range allTypes {
			if usual(a, b) != usual(b, a) {
				t.Errorf("Usual(%v, %v) = %v; the other way %v", a, b, usual(a, b), usual(b, a))
			}
			for _, c := range allTypes {
				if usual(usual(a, b), c) != usual(a, usual(b, c)) {
					t.Errorf("Usual of %v, %v, %v is not associative", a, b, c)
				}
			}
		}
	}
}

// P1.5
func TestRepresentationsOfValues(t *testing.T) {
	for _, x := range allTypes {
		for _, v := range patterns() {
			want := modelWrap(x, v)
			b, e := bits.Bytes(x, v)
			if got, f := bits.FromBytes(x, b); got != want || e != api.OK || f != api.OK {
				t.Errorf("%v: %d as bytes %v, %d, and back %d, %d", x, v, b, e, got, f)
			}
			s, e := bits.Text(x, v)
			if got, f := bits.Parse(x, s); got != want || e != api.OK || f != api.OK {
				t.Errorf("%v: %d as text %q, %d, and back %d, %d", x, v, s, e, got, f)
			}
		}
	}
}

// P1.5
func TestValuesOfRepresentations(t *testing.T) {
	for _, x := range allTypes {
		for seed := 0; seed < 256; seed++ {
			b := make([]byte, x.Size)
			for i := range b {
				b[i] = byte(seed + 37*i)
			}
			v, e := bits.FromBytes(x, b)
			if back, f := bits.Bytes(x, v); !bytes.Equal(back, b) || e != api.OK || f != api.OK {
				t.Errorf("%v: bytes %v are %d, %d, and back %v, %d", x, b, v, e, back, f)
			}
			s := modelNumber(x, v).String()
			u, e := bits.Parse(x, s)
			if back, f := bits.Text(x, u); back != s || e != api.OK || f != api.OK {
				t.Errorf("%v: text %q is %d, %d, and back %q, %d", x, s, u, e, back, f)
			}
		}
	}
}

// P1.6: Compare is a total order.
func TestTotalOrder(t *testing.T) {
	compare := func(x api.Int, a, b int64) int {
		n, e := bits.Compare(x, a, b)
		if e != api.OK {
			t.Fatalf("Compare(%v, %d, %d): %d", x, a, b, e)
		}
		return n
	}
	for _, x := range allTypes {
		list := valuesOf(x, shortPatterns())
		lo, hi, e := bits.Range(x)
		if e != api.OK {
			t.Fatalf("Range(%v): %d", x, e)
		}
		for _, a := range list {
			if compare(x, lo, a) > 0 || compare(x, hi, a) < 0 {
				t.Errorf("%v: %d is not from %d to %d", x, a, lo, hi)
			}
			for _, b := range list {
				if compare(x, a, b) != -compare(x, b, a) || (compare(x, a, b) == 0) != (a == b) {
					t.Errorf("%v: %d and %d compare as %d, and %d", x, a, b, compare(x, a, b), compare(x, b, a))
				}
				for _, c := range list {
					if compare(x, a, b) <= 0 && compare(x, b, c) <= 0 && compare(x, a, c) > 0 {
						t.Errorf("%v: %d, %d, %d are in no order", x, a, b, c)
					}
				}
			}
		}
	}
}

// P1.6: the results of Range are values, and there is none beyond them.
func TestRangeIsTight(t *testing.T) {
	for _, x := range allTypes {
		lo, hi, e := bits.Range(x)
		if e != api.OK || lo != wrap(t, x, lo) || hi != wrap(t, x, hi) {
			t.Errorf("Range(%v) = %d, %d, %d", x, lo, hi, e)
		}
		below := new(big.Int).Sub(modelNumber(x, lo), big.NewInt(1))
		above := new(big.Int).Add(modelNumber(x, hi), big.NewInt(1))
		if hasNumber(x, below) || hasNumber(x, above) {
			t.Errorf("Range(%v) = %d, %d: there are values beyond", x, lo, hi)
		}
	}
}

// P1.6: the relations agree with Compare.
func TestRelationsAgree(t *testing.T) {
	for _, x := range allTypes {
		for _, a := range patterns() {
			for _, b := range patterns() {
				n, e := bits.Compare(x, a, b)
				for op := api.BiLt; op <= api.BiNe; op++ {
					w, v := apply(t, op, x, a, b)
					if e != api.OK || w != i4 || v != modelRelation(op, n) {
						t.Errorf("operation %d of %v on %d and %d: %d of %v; Compare is %d, %d", op, x, a, b, v, w, n, e)
					}
				}
			}
		}
	}
}

// P1.7: shifts are multiplications and divisions.
func TestShiftsArePowers(t *testing.T) {
	for _, x := range allTypes {
		p := modelPromote(x)
		for n := 0; n < 8*p.Size; n++ {
			for _, a := range patterns() {
				_, left := apply(t, api.BiShl, x, a, int64(n))
				_, product, e := bits.Binary(api.BiMul, x, a, p, stored(reduced(p, power(n))))
				if e != api.OK || wrap(t, p, product) != left {
					t.Errorf("%v: %d shifted left by %d is %d, not %d", x, a, n, left, product)
				}
				number := modelNumber(x, a)
				_, right := apply(t, api.BiShr, x, a, int64(n))
				quotient := new(big.Int).Quo(number, power(n))
				if number.Sign() >= 0 && right != stored(quotient) {
					t.Errorf("%v: %d shifted right by %d is %d, not %v", x, a, n, right, quotient)
				}
			}
		}
	}
}

// P1.7: shifts add up.
func TestShiftsAddUp(t *testing.T) {
	for _, op := range []int{api.BiShl, api.BiShr} {
		for _, x := range allTypes {
			for _, a := range shortPatterns() {
				for n := 0; n < 8*modelPromote(x).Size; n++ {
					w, all := apply(t, op, x, a, int64(n))
					for m := 0; m <= n; m++ {
						p, part := apply(t, op, x, a, int64(m))
						if u, both := apply(t, op, p, part, int64(n-m)); u != w || both != all {
							t.Errorf("operation %d of %v on %d by %d and %d: %d of %v, not %d of %v", op, x, a, m, n-m, both, u, all, w)
						}
					}
				}
			}
		}
	}
}

// P1.8
func TestConversionsKeepNumbers(t *testing.T) {
	for _, from := range allTypes {
		for _, to := range allTypes {
			for _, v := range valuesOf(from, patterns()) {
				got, e := bits.Convert(from, to, v)
				if n := modelNumber(from, v); e != api.OK || hasNumber(to, n) && got != stored(n) {
					t.Errorf("Convert(%v, %v, %d) = %d, %d", from, to, v, got, e)
				}
				if back, f := bits.Convert(to, from, got); to.Size >= from.Size && (back != v || f != api.OK) {
					t.Errorf("Convert(%v, %v, %d) = %d, and back %d, %d", from, to, v, got, back, f)
				}
			}
		}
	}
}
