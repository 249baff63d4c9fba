package patch_test

import (
	"math/big"
	"reflect"
	"slices"

	"tapline/api"
	"tapline/cpu"
	"tapline/insn"
	"tapline/mem"
)

// The model says what the chapter says, byte by byte of the patched space itself; it takes the lower layers' words for granted, and shares nothing with the package.

// window returns the bytes that can be executed from an address on, up to 12.
func window(s api.Space, at int64) []byte {
	var out []byte
	for a := at; len(out) < 12 && a >= 0 && a < int64(len(s.Bytes)) && s.Perm[a/64] == api.PmExec; a++ {
		out = append(out, s.Bytes[a])
	}
	return out
}

// stands returns the instruction that stands at an address, and its length.
func stands(s api.Space, at int64) (api.Insn, int, bool) {
	x, n, e := insn.Decode(window(s, at))
	return x, n, e == api.OK
}

// modelClean returns the clean space, and whether the patched space is valid.
func modelClean(p api.Patched) (api.Space, bool) {
	if mem.Check(p.Space) != api.OK || len(p.L) > 64 {
		return api.Space{}, false
	}
	out := clone(p.Space)
	for i, x := range p.L {
		switch {
		case x.At < 0, x.At >= int64(len(out.Bytes)), x.N < 1, x.N > 1000, p.Space.Bytes[x.At] != 204:
			return api.Space{}, false
		case i > 0 && x.At <= p.L[i-1].At:
			return api.Space{}, false
		}
		out.Bytes[x.At] = x.Old
	}
	for _, x := range p.L {
		if _, _, ok := stands(out, x.At); !ok {
			return api.Space{}, false
		}
	}
	return out, true
}

// indexOf returns the index of a patched address, or -1.
func indexOf(p api.Patched, at int64) int {
	return slices.IndexFunc(p.L, func(x api.Patch) bool { return x.At == at })
}

func modelInstall(p api.Patched, at int64) (api.Patched, api.Errno) {
	out := clone(p)
	if i := indexOf(p, at); i >= 0 {
		if p.L[i].N == 1000 {
			return api.Patched{}, api.ErrLong
		}
		out.L[i].N++
		return out, api.OK
	}
	if _, _, ok := stands(p.Space, at); !ok {
		return api.Patched{}, api.ErrCode
	}
	if len(p.L) == 64 {
		return api.Patched{}, api.ErrLong
	}
	out.L = append(out.L, api.Patch{At: at, Old: p.Space.Bytes[at], N: 1})
	slices.SortFunc(out.L, func(a, b api.Patch) int { return int(a.At - b.At) })
	out.Space.Bytes[at] = 204
	return out, api.OK
}

func modelRemove(p api.Patched, at int64) (api.Patched, api.Errno) {
	i := indexOf(p, at)
	if i < 0 {
		return api.Patched{}, api.ErrNone
	}
	out := clone(p)
	out.L[i].N--
	if out.L[i].N == 0 {
		out.Space.Bytes[at] = out.L[i].Old
		out.L = append(out.L[:i], out.L[i+1:]...)
	}
	return out, api.OK
}

func modelRebase(p api.Patched, s api.Space) (api.Patched, api.Errno) {
	if e := mem.Check(s); e != api.OK {
		return api.Patched{}, e
	}
	out := api.Patched{Space: clone(s), L: clone(p.L)}
	for i, x := range p.L {
		if _, _, ok := stands(s, x.At); !ok {
			return api.Patched{}, api.ErrCode
		}
		out.L[i].Old = s.Bytes[x.At]
		out.Space.Bytes[x.At] = 204
	}
	return out, api.OK
}

// emulated are the operations that are never executed in another place.
var emulated = []int{api.InCall, api.InCallR, api.InSys, api.InBreak}

// reaches has the greatest operand of the operations with a target; the least one is -1 less it.
var reaches = map[int]int64{api.InBeq: 63, api.InBne: 63, api.InBlt: 63, api.InBge: 63, api.InJump: 8191, api.InLea: 8191}

// wrapped returns an integer without bounds as the int64 with the same lowest bits.
func wrapped(n *big.Int) int64 {
	low := new(big.Int).And(n, new(big.Int).SetUint64(1<<64-1))
	return int64(low.Uint64())
}

func modelDisplace(x api.Insn, from, to int64) (api.Insn, int, api.Errno) {
	if e := insn.Check(x); e != api.OK {
		return api.Insn{}, 0, e
	}
	reach, ok := reaches[x.Op]
	if !ok {
		if slices.Contains(emulated, x.Op) {
			return x, api.PtEmulate, api.OK
		}
		return x, api.PtCopy, api.OK
	}
	far := new(big.Int).Add(big.NewInt(x.Imm), big.NewInt(from))
	imm := wrapped(far.Sub(far, big.NewInt(to)))
	if imm > reach || imm < -1-reach || imm == 0 && x.Op != api.InLea {
		return x, api.PtEmulate, api.OK
	}
	return api.Insn{Op: x.Op, A: x.A, B: x.B, Imm: imm}, api.PtFix, api.OK
}

// modelStep is what the chapter says of Step in a valid patched space; its theorem says that the effect is that of cpu.Step in the clean one.
func modelStep(p api.Patched, r api.Regs, slot int64) (api.Effect, int) {
	clean, _ := modelClean(p)
	if indexOf(p, r.Pc) < 0 {
		out, _ := cpu.Step(p.Space, r)
		return out, api.PtNone
	}
	x, n, _ := stands(clean, r.Pc)
	d, mode, _ := modelDisplace(x, r.Pc, slot)
	if mode == api.PtEmulate {
		out, _ := cpu.Exec(x, p.Space, r)
		return out, mode
	}
	out, _ := cpu.Exec(d, p.Space, api.Regs{R: r.R, Pc: slot})
	out.Insn = x
	if out.Trap.Kind != api.TrNone {
		out.Regs.Pc = r.Pc
	} else if x.Op != api.InJumpR && x.Op != api.InRet && out.Regs.Pc == slot+int64(n) {
		out.Regs.Pc = r.Pc + int64(n)
	}
	return out, mode
}

// deep reports whether values of a type have slices.
func deep(t reflect.Type) bool {
	for i := 0; t.Kind() == reflect.Struct && i < t.NumField(); i++ {
		if deep(t.Field(i).Type) {
			return true
		}
	}
	return t.Kind() == reflect.Slice
}

// copyOf returns v in new memory; every slice gets so much spare room, with bytes and numbers that are not zero.
func copyOf(v reflect.Value, room int) reflect.Value {
	if !deep(v.Type()) {
		return v
	}
	out := reflect.New(v.Type()).Elem()
	switch v.Kind() {
	case reflect.Slice:
		if v.IsNil() && room == 0 {
			return out
		}
		all := reflect.MakeSlice(v.Type(), v.Len()+room, v.Len()+room)
		reflect.Copy(all, v)
		for i := 0; i < v.Len() && deep(v.Type().Elem()); i++ {
			all.Index(i).Set(copyOf(v.Index(i), room))
		}
		for i := range room {
			fill(all.Index(v.Len() + i))
		}
		return all.Slice(0, v.Len())
	case reflect.Struct:
		for i := range v.NumField() {
			out.Field(i).Set(copyOf(v.Field(i), room))
		}
	}
	return out
}

// fill makes the numbers of a value 77.
func fill(v reflect.Value) {
	switch {
	case v.CanInt():
		v.SetInt(77)
	case v.CanUint():
		v.SetUint(77)
	case v.Kind() == reflect.Struct:
		for i := range v.NumField() {
			fill(v.Field(i))
		}
	}
}

// clone returns a value in new memory.
func clone[T any](v T) T {
	return copyOf(reflect.ValueOf(&v).Elem(), 0).Interface().(T)
}

// roomy returns a value in new memory with spare room behind each slice.
func roomy[T any](v T) T {
	return copyOf(reflect.ValueOf(&v).Elem(), 3).Interface().(T)
}

// slicesOf calls f with each slice of a value, with its spare room.
func slicesOf(v reflect.Value, f func(all reflect.Value)) {
	switch v.Kind() {
	case reflect.Slice:
		f(v.Slice(0, v.Cap()))
		for i := 0; i < v.Len() && deep(v.Type().Elem()); i++ {
			slicesOf(v.Index(i), f)
		}
	case reflect.Struct:
		for i := range v.NumField() {
			slicesOf(v.Field(i), f)
		}
	}
}

// memory returns the contents of the slices of a value, with their spare room.
func memory[T any](v T) []any {
	var out []any
	slicesOf(reflect.ValueOf(&v).Elem(), func(all reflect.Value) {
		out = append(out, copyOf(all, 0).Interface())
	})
	return out
}

// part is the memory behind a slice.
type part struct {
	from, to uintptr
}

// parts returns the memory behind the slices of a value.
func parts[T any](v T) []part {
	var out []part
	slicesOf(reflect.ValueOf(&v).Elem(), func(all reflect.Value) {
		if size := uintptr(all.Len()) * all.Type().Elem().Size(); size > 0 {
			out = append(out, part{all.Pointer(), all.Pointer() + size})
		}
	})
	return out
}

// overlap reports whether some memory of a is memory of b.
func overlap(a, b []part) bool {
	return slices.ContainsFunc(a, func(p part) bool {
		return slices.ContainsFunc(b, func(q part) bool { return p.from < q.to && q.from < p.to })
	})
}

// overlaps reports whether two of the parts share memory.
func overlaps(l []part) bool {
	for i := range l {
		if overlap(l[i:i+1], l[i+1:]) {
			return true
		}
	}
	return false
}

// plain returns a value with nil in place of each empty slice.
func plain[T any](v T) T {
	out := clone(v)
	empty(reflect.ValueOf(&out).Elem())
	return out
}

func empty(v reflect.Value) {
	switch v.Kind() {
	case reflect.Slice:
		if v.Len() == 0 {
			v.SetZero()
		}
		for i := 0; i < v.Len() && deep(v.Type().Elem()); i++ {
			empty(v.Index(i))
		}
	case reflect.Struct:
		for i := range v.NumField() {
			empty(v.Field(i))
		}
	}
}

// equal compares two values without the package; nil and empty lists are the same.
func equal[T any](a, b T) bool {
	return reflect.DeepEqual(plain(a), plain(b))
}
