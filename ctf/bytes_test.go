package ctf_test

import (
	"bytes"
	"fmt"
	"math"
	"slices"
	"testing"

	"tapline/api"
	"tapline/ctf"
)

// begin is what the bytes of type data begin with.
var begin = []byte{67, 84, 70, 1}

// encoded returns the bytes behind the beginning as they are written here: numbers and strings.
func encoded(parts ...any) []byte {
	out := slices.Clone(begin)
	for _, p := range parts {
		switch p := p.(type) {
		case int:
			out = append(out, byte(p))
		case string:
			out = append(out, p...)
		}
	}
	return out
}

// P8.1: the bytes of type data, written out.
func TestEncode(t *testing.T) {
	for _, c := range []struct {
		t    api.Types
		want []byte
	}{
		{api.Types{}, []byte{67, 84, 70, 1, 0}},
		{data(num("ab", 4, true)), encoded(2, 2, 4, "ab", 8, 1, 0, 0, 0)},
		{data(num("a", 8, false), ptr(0), arr(1, 31), arr(0, 32)), encoded(8, 2, 2, "a", 16, 0, 0, 0, 0, 4, 0, 0, 0, 0, 0, 0, 6, 0, 0, 0, 2, 62, 0, 6, 0, 0, 0, 0, 64, 0)},
		{one(alias("x", 0)), encoded(4, 2, 8, "char", 2, 1, 0, 0, 0, 12, 2, "x", 0, 0, 0, 0, 0)},
		// 63 and 64 elements, 127 and 128, 512: the bytes of 126, 128, 254, 256 and 1024.
		{one(arr(0, 63), arr(0, 64), arr(0, 127), arr(0, 128), arr(0, 512)), encoded(12, 2, 8, "char", 2, 1, 0, 0, 0, 6, 0, 0, 0, 0, 126, 0, 6, 0, 0, 0, 0, 128, 1, 0, 6, 0, 0, 0, 0, 254, 1, 0, 6, 0, 0, 0, 0, 128, 2, 0, 6, 0, 0, 0, 0, 128, 8, 0)},
		{one(rec("st", 512, field("f", 0, 0), field("gg", 0, 511))), encoded(4, 2, 8, "char", 2, 1, 0, 0, 0, 8, 4, "st", 0, 0, 0, 128, 8, 4, 2, "f", 0, 0, 4, "gg", 0, 254, 7)},
		{data(enum("e", value("a", 0), value("b", -1), value("c", 1), value("d", -64), value("f", -65), value("g", 63), value("h", math.MaxInt32), value("i", math.MinInt32))),
			encoded(2, 10, 2, "e", 0, 0, 0, 0, 16, 2, "a", 0, 0, 2, "b", 0, 1, 2, "c", 0, 2, 2, "d", 0, 127, 2, "f", 0, 129, 1, 2, "g", 0, 126, 2, "h", 0, 254, 255, 255, 255, 15, 2, "i", 0, 255, 255, 255, 255, 15)},
		{data(num(long(31), 1, false)), encoded(2, 2, 62, long(31), 2, 0, 0, 0, 0)},
	} {
		makes(t, "Encode", given{T: c.t}, result{Bytes: c.want})
		makes(t, "Decode", given{B: c.want}, result{T: c.t})
	}
	b, e := ctf.Encode(many("a", 200))
	if e != api.OK || !slices.Equal(b[:6], []byte{67, 84, 70, 1, 144, 3}) {
		t.Errorf("Encode of 200 definitions: %v, %d", b[:6], e)
	}
	makes(t, "Encode", given{T: many("a", 201)}, result{Err: api.ErrTypes})
}

// ones returns the bytes of the number that is so many bits, all of them 1.
func ones(bits int) []byte {
	bytesAhead := (bits - 1) / 7
	return append(bytes.Repeat([]byte{255}, bytesAhead), byte(1<<(bits-7*bytesAhead)-1))
}

// P8.1: integers at both ends of their range in Decode, wherever an integer stands, are those of some type data, which is not well-formed; beyond the range they are of none.
func TestDecodeOfIntegers(t *testing.T) {
	// The bytes of a structure with one member, with an integer of it replaced.
	with := func(place int, x []byte) []byte {
		parts := [][]byte{begin, {4}, {2, 2, 'c', 2, 1, 0, 0, 0}, {8}, {2, 's'}, {0}, {0}, {0}, {16}, {2}, {2, 'f'}, {0}, {0}}
		parts[place] = x
		return slices.Concat(parts...)
	}
	makes(t, "Decode", given{B: with(0, begin)}, result{T: data(num("c", 1, true), rec("s", 8, field("f", 0, 0)))})
	for _, place := range []int{3, 5, 7, 8, 11, 12} {
		for _, n := range []int{math.MinInt, math.MinInt + 1, math.MinInt / 2, math.MinInt32, -8192, -8193, 8191, 8192, 1 << 31, 1 << 55, 1<<62 - 1, 1 << 62, math.MaxInt - 1, math.MaxInt} {
			makes(t, "Decode", given{B: with(place, modelInt(n))}, result{Err: api.ErrTypes})
		}
		// 2^64 - 1 is the greatest number of 64 bits; with one bit more, or one byte, it is none of them.
		makes(t, "Decode", given{B: with(place, ones(64))}, result{Err: api.ErrTypes})
		for _, bad := range [][]byte{ones(65), ones(66), ones(69), ones(70), ones(77), ones(700), append(bytes.Repeat([]byte{128}, 9), 2), append(bytes.Repeat([]byte{128}, 10), 1), append(bytes.Repeat([]byte{128}, 9), 129, 0), bytes.Repeat([]byte{255}, 40)} {
			makes(t, "Decode", given{B: with(place, bad)}, result{Err: api.ErrBytes})
		}
		// An unnecessary byte, or several, behind each number of bytes.
		for _, n := range []int{0, 1, -1, 63, -64, 64, 8191, 1 << 40, math.MaxInt, math.MinInt} {
			x := modelInt(n)
			x[len(x)-1] += 128
			for range 3 {
				makes(t, "Decode", given{B: with(place, append(slices.Clone(x), 0))}, result{Err: api.ErrBytes})
				x = append(x, 128)
			}
		}
	}
	// Booleans.
	for c := range 256 {
		want := result{Err: api.ErrBytes}
		if c <= 1 {
			want = result{Err: api.ErrTypes} // with 1: a structure with an Int
		}
		if c == 0 {
			want = result{T: data(num("c", 1, true), rec("s", 8, field("f", 0, 0)))}
		}
		makes(t, "Decode", given{B: with(6, []byte{byte(c)})}, want)
	}
	// Lengths that are negative, or longer than what follows; of lists and of strings.
	for _, place := range []int{1, 9} {
		for _, n := range []int{-1, -2, math.MinInt, math.MaxInt, math.MaxInt - 1, 1 << 32, 1 << 31, 3} {
			makes(t, "Decode", given{B: with(place, modelInt(n))}, result{Err: api.ErrBytes})
		}
	}
	for _, place := range []int{4, 10} {
		for _, n := range []int{-1, -2, math.MinInt, math.MaxInt, 1 << 62, 1 << 32, 200, 100, 20} {
			makes(t, "Decode", given{B: with(place, append(modelInt(n), 'x'))}, result{Err: api.ErrBytes})
		}
	}
}

// P8.1: Decode of bytes that are cut off at each place, that go on, and that begin with something else.
func TestDecodeOfParts(t *testing.T) {
	for _, x := range []api.Types{{}, example(), rich(), data(enum("e", value("a", math.MinInt32), value("b", math.MaxInt32)))} {
		b := modelEncode(x)
		makes(t, "Decode", given{B: b}, result{T: x})
		for n := range b {
			makes(t, "Decode", given{B: b[:n]}, result{Err: api.ErrBytes})
		}
		for c := range 256 {
			makes(t, "Decode", given{B: append(slices.Clone(b), byte(c))}, result{Err: api.ErrBytes})
		}
		makes(t, "Decode", given{B: slices.Concat(b, b)}, result{Err: api.ErrBytes})
		for i := range 4 {
			for c := range 256 {
				other := slices.Clone(b)
				other[i] = byte(c)
				if other[i] != b[i] {
					makes(t, "Decode", given{B: other}, result{Err: api.ErrBytes})
				}
			}
		}
		makes(t, "Decode", given{B: b[1:]}, result{Err: api.ErrBytes})
		makes(t, "Decode", given{B: b[4:]}, result{Err: api.ErrBytes})
		makes(t, "Decode", given{B: append([]byte{0}, b...)}, result{Err: api.ErrBytes})
	}
	makes(t, "Decode", given{}, result{Err: api.ErrBytes})
	makes(t, "Decode", given{B: []byte{67, 84, 70, 1, 0}}, result{})
	makes(t, "Decode", given{B: []byte("ctf\x01\x00")}, result{Err: api.ErrBytes})
}

// P8.1: Decode of bytes each of which is replaced by each other one, and of each pair of bytes behind the beginning.
func TestDecodeOfEveryByte(t *testing.T) {
	counts := map[string]int{}
	decode := others()[2]
	one := func(b []byte) {
		counts[fmt.Sprint(decode.compare(t, given{B: b}).Err)]++
	}
	for _, x := range []api.Types{example(), data(enum("e", value("a", -70), value("b", 1000)), ptr(0), arr(1, 9), alias("a", 2))} {
		b := modelEncode(x)
		for i := range b {
			for c := range 256 {
				other := slices.Clone(b)
				other[i] = byte(c)
				one(other)
			}
			one(slices.Delete(slices.Clone(b), i, i+1))
			one(slices.Insert(slices.Clone(b), i, 0))
			one(slices.Insert(slices.Clone(b), i, 128))
		}
	}
	for i := range 256 {
		one(append(slices.Clone(begin), byte(i)))
		for k := range 256 {
			one(append(slices.Clone(begin), byte(i), byte(k)))
		}
	}
	enough(t, counts, 200, "0", "80", "81")
}

// P8.1: Decode of bytes of type data that has empty strings and lists, and of much that is not well-formed.
func TestDecodeOfIllFormed(t *testing.T) {
	for _, x := range []api.Types{
		data(api.Def{}), data(api.Def{}, api.Def{}), {Defs: make([]api.Def, 201)}, {Defs: make([]api.Def, 100000)}, data(num("", 4, true)), data(rec("", 1)), data(rec("s", 1)), data(enum("e")), data(rec("s", 1, api.Field{})), data(rec("s", 1, make([]api.Field, 100000)...)),
		data(num("a\x00\xff", 4, true)), data(num(string(make([]byte, 100000)), 4, true)), many("a", 201), data(num("a", 3, true)), data(num("a", -1, false)), data(api.Def{Kind: math.MinInt, Ref: math.MaxInt, N: math.MinInt, Int: api.Int{Size: math.MaxInt}}),
	} {
		makes(t, "Decode", given{B: modelEncode(x)}, result{Err: api.ErrTypes})
		makes(t, "Encode", given{T: x}, result{Err: api.ErrTypes})
	}
}
