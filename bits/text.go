package bits

import (
	"math"
	"strings"

	"tapline/api"
)

// number is an integer from -(2^64 - 1) to 2^64 - 1; 0 is not negative.
type number struct {
	negative bool
	size     uint64
}

// numberOf returns the number of a value of a type.
func numberOf(t api.Int, v int64) number {
	if t.Signed && v < 0 {
		return number{negative: true, size: -uint64(v)}
	}
	return number{size: uint64(v)}
}

// pattern returns the lowest 64 bits of the two's complement representation.
func (n number) pattern() int64 {
	if n.negative {
		return -int64(n.size)
	}
	return int64(n.size)
}

// text returns a number in decimal digits.
func text(n number) string {
	var out []byte
	if n.negative {
		out = append(out, '-')
	}
	var write func(rest uint64)
	write = func(rest uint64) {
		if rest >= 10 {
			write(rest / 10)
		}
		out = append(out, '0'+byte(rest%10))
	}
	write(n.size)
	return string(out)
}

// read returns the number that a string represents, if it has one of the forms of Parse and is within the range of number.
func read(s string) (number, bool) {
	if hexadecimal, ok := strings.CutPrefix(s, "0x"); ok {
		size, ok := digits(hexadecimal, 16)
		return number{size: size}, ok && len(hexadecimal) <= 16
	}
	decimal, negative := strings.CutPrefix(s, "-")
	size, ok := digits(decimal, 10)
	if !ok || decimal[0] == '0' && s != "0" {
		return number{}, false
	}
	return number{negative: negative, size: size}, true
}

// digits returns the number of one or more digits of a base, unless it has more than 64 bits.
func digits(s string, base uint64) (uint64, bool) {
	n := uint64(0)
	for _, c := range []byte(s) {
		d, ok := digit(c)
		if !ok || d >= base || n > (math.MaxUint64-d)/base {
			return 0, false
		}
		n = n*base + d
	}
	return n, s != ""
}

func digit(c byte) (uint64, bool) {
	switch {
	case '0' <= c && c <= '9':
		return uint64(c - '0'), true
	case 'a' <= c && c <= 'f':
		return uint64(c-'a') + 10, true
	case 'A' <= c && c <= 'F':
		return uint64(c-'A') + 10, true
	}
	return 0, false
}
