package patch_test

import (
	"fmt"
	"strings"

	"tapline/api"
	"tapline/insn"
)

// The space of the tests: two code pages, a page that may be read and written, one that may be read, one without permissions, and a code page at the end.
const (
	dataAt  = 128
	fixedAt = 192
	noneAt  = 256
	lastAt  = 320
	spaceTo = 384
)

// spaceOf returns a space of pages with these permissions: InNop everywhere in its code, zeros elsewhere.
func spaceOf(perm ...int) api.Space {
	s := api.Space{Perm: perm}
	for _, p := range perm {
		fill := byte(0)
		if p == api.PmExec {
			fill = 129
		}
		for range 64 {
			s.Bytes = append(s.Bytes, fill)
		}
	}
	return s
}

// with returns a space with instructions, which are separated by `;`, from an address on.
func with(s api.Space, at int64, text string) api.Space {
	code, _, line, e := insn.Assemble(strings.ReplaceAll(text, ";", "\n"), at)
	if e != api.OK || int(at)+len(code) > len(s.Bytes) {
		panic(fmt.Sprintf("no code: %q, instruction %d: %d", text, line, e))
	}
	out := clone(s)
	copy(out.Bytes[at:], code)
	return out
}

// bare returns the space of the tests without breakpoints; all its code that is not told here is InNop.
func bare() api.Space {
	s := spaceOf(api.PmExec, api.PmExec, api.PmRead+api.PmWrite, api.PmRead, 0, api.PmExec)
	s = with(s, 0, "inc r0, 1; jump .-6; call .+10; nop; break; break; set r2, 130; move r1, r2; load8 r3, [r2+7]")
	s = with(s, 62, "lit r4, 1")
	return with(s, 126, "move r1, r2")
}

// patchedAt returns a space with breakpoints, each of which is wanted once, at increasing addresses.
func patchedAt(s api.Space, at ...int64) api.Patched {
	p := api.Patched{Space: clone(s)}
	for _, a := range at {
		p.L = append(p.L, api.Patch{At: a, Old: s.Bytes[a], N: 1})
		p.Space.Bytes[a] = 204
	}
	return p
}

// base is a valid patched space: its instructions have 1, 2, 3 and 12 bytes, one is a breakpoint of the program, one goes on in the next page, one stands at the end of a code page, and one at the end of the space.
func base() api.Patched {
	p := patchedAt(bare(), 0, 10, 12, 62, 126, 383)
	p.L[1].N, p.L[2].N, p.L[3].N = 2, 1000, 999
	return p
}

// from returns n addresses one behind the other.
func from(at int64, n int) []int64 {
	var out []int64
	for i := range int64(n) {
		out = append(out, at+i)
	}
	return out
}

// full is a patched space with 64 breakpoints, at the addresses 0 and 64 to 126.
func full() api.Patched {
	s := with(spaceOf(api.PmExec, api.PmExec), 0, "inc r0, 1")
	return patchedAt(s, append([]int64{0}, from(64, 63)...)...)
}

// parse returns the instruction of a line.
func parse(line string) api.Insn {
	x, e := insn.Parse(line)
	if e != api.OK {
		panic("no line: " + line)
	}
	return x
}
