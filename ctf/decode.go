package ctf

import "tapline/api"

// source is what is left of bytes that are read from the first one on.
type source struct {
	rest []byte
}

// malformed is the panic with which reading ends at a byte that does not belong there.
type malformed struct{}

// demand leaves unless something holds.
func demand(holds bool) {
	if !holds {
		panic(malformed{})
	}
}

// take reads n bytes.
func (s *source) take(n int) []byte {
	demand(within(n, 0, len(s.rest)))
	b := s.rest[:n]
	s.rest = s.rest[n:]
	return b
}

// next reads a byte.
func (s *source) next() byte {
	return s.take(1)[0]
}

// end leaves if there are bytes that were not read.
func (s *source) end() {
	demand(len(s.rest) == 0)
}

// decoder reads values from a source.
type decoder struct {
	source
}

// decoded returns the value, well-formed or not, whose bytes these are; the error is ErrBytes if there is none.
func decoded(b []byte) (t api.Types, e api.Errno) {
	defer func() {
		if recover() != nil {
			t, e = api.Types{}, api.ErrBytes
		}
	}()
	d := &decoder{source{b}}
	demand(string(d.take(len(beginning))) == beginning)
	t.Defs = list(d, d.def)
	d.end()
	return t, api.OK
}

// list reads a list. It has no more elements than bytes follow, whatever its length says.
func list[T any](d *decoder, element func() T) []T {
	n := d.integer()
	demand(n >= 0)
	var out []T
	for range n {
		out = append(out, element())
	}
	return out
}

func (d *decoder) integer() int {
	n := uint64(0)
	for shift := 0; ; shift += 7 {
		b := d.next()
		// The tenth byte has but one bit of the 64.
		demand(shift < 63 || b <= 1)
		n |= uint64(b&127) << shift
		if b < 128 {
			demand(b != 0 || shift == 0)
			break
		}
	}
	if n%2 == 1 {
		return int(^(n >> 1))
	}
	return int(n >> 1)
}

func (d *decoder) boolean() bool {
	b := d.next()
	demand(b <= 1)
	return b == 1
}

func (d *decoder) text() string {
	n := d.integer()
	return string(d.take(n))
}

func (d *decoder) def() api.Def {
	var out api.Def
	out.Kind = d.integer()
	out.Name = d.text()
	out.Int.Size = d.integer()
	out.Int.Signed = d.boolean()
	out.Ref = d.integer()
	out.N = d.integer()
	out.Fields = list(d, d.field)
	return out
}

func (d *decoder) field() api.Field {
	var out api.Field
	out.Name = d.text()
	out.Type = d.integer()
	out.At = d.integer()
	return out
}
