package ctf_test

import (
	"fmt"
	"math"
	"slices"
	"strings"
	"testing"

	"tapline/api"
)

// P8.1: the chapter's examples, but for those of Unique, Merge and Encode.
func TestExamples(t *testing.T) {
	x := example()
	makes(t, "Check", given{T: x}, result{})
	makes(t, "Size", given{T: x, I: 1}, result{N: 24})
	makes(t, "Size", given{T: x, I: 3}, result{N: 8})
	makes(t, "Text", given{T: x, I: 2}, result{S: "thread_t *"})
	makes(t, "Text", given{T: x, I: 3}, result{S: "char [8]"})
	makes(t, "Member", given{T: x, I: 1, Name: "t_next"}, result{F: field("t_next", 2, 8)})
	makes(t, "Path", given{T: x, I: 1, Path: []string{"t_name"}}, result{N: 3, At: 16})
	makes(t, "Member", given{T: x, I: 2, Name: "t_tid"}, result{Err: api.ErrForm})
}

// P8.1: sizes, texts and resolved types of each kind of definition.
func TestTypes(t *testing.T) {
	for i, want := range []struct {
		size     int
		text     string
		resolved int
	}{
		thrT: {48, "thr_t", threadT}, procPtr: {8, "proc_t *", procPtr}, charArr: {8, "char [8]", charArr}, threadT: {48, "thread_t", threadT}, thrPtr: {8, "thr_t *", thrPtr}, stateE: {4, "state_e", stateE}, procT: {512, "proc_t", procT},
		thrArr: {432, "thr_t [9]", thrArr}, int32T: {4, "int32", int32T}, charT: {1, "char", charT}, arrPtr: {8, "char [8] *", arrPtr}, ptrArr: {16, "char [8] * [2]", ptrArr}, ptrPtr: {8, "char [8] * *", ptrPtr}, lockT: {8, "lock_t", lockT},
	} {
		makes(t, "Size", given{T: rich(), I: i}, result{N: want.size})
		makes(t, "Text", given{T: rich(), I: i}, result{S: want.text})
		makes(t, "Resolve", given{T: rich(), I: i}, result{N: want.resolved})
	}
}

// P8.1: long ways: an alias of aliases, arrays of arrays, and texts of many parts.
func TestLongWays(t *testing.T) {
	var l api.Types
	for i := range 66 {
		l.Defs = append(l.Defs, alias(fmt.Sprint("a", i), i+1))
	}
	l.Defs = append(l.Defs, rec("s", 512, field("f", 67, 0)), arr(68, 512), num("c", 1, false), ptr(68))
	for range 100 {
		l.Defs = append(l.Defs, ptr(len(l.Defs)-1))
	}
	makes(t, "Resolve", given{T: l, I: 0}, result{N: 66})
	makes(t, "Resolve", given{T: l, I: 65}, result{N: 66})
	makes(t, "Size", given{T: l, I: 0}, result{N: 512})
	makes(t, "Size", given{T: l, I: 67}, result{N: 512})
	makes(t, "Text", given{T: l, I: 67}, result{S: "c [512]"})
	makes(t, "Text", given{T: l, I: 169}, result{S: "c" + strings.Repeat(" *", 101)})
	makes(t, "Member", given{T: l, I: 3, Name: "f"}, result{F: field("f", 67, 0)})
	makes(t, "Size", given{T: one(arr(0, 2), arr(1, 4), arr(2, 8), arr(3, 8)), I: 4}, result{N: 512})
	makes(t, "Text", given{T: one(arr(0, 2), arr(1, 4), arr(2, 8), arr(3, 8)), I: 4}, result{S: "char [2] [4] [8] [8]"})
	makes(t, "Size", given{T: one(num("int", 8, true), arr(1, 64)), I: 2}, result{N: 512})
	for _, size := range []int{1, 2, 4, 8} {
		makes(t, "Size", given{T: data(num("x", size, size == 2)), I: 0}, result{N: size})
	}
}

// P8.1: types that are no index: ErrNone alone, whatever the other arguments are; Equal is false.
func TestNoTypes(t *testing.T) {
	for _, x := range []api.Types{{}, example(), rich(), many("a", 200)} {
		n := len(x.Defs)
		for _, i := range []int{-1, n, n + 1, math.MinInt, math.MaxInt, 1 << 32, -1 << 32, 200} {
			for _, name := range []string{"Size", "Text", "Resolve", "Member", "Path"} {
				makes(t, name, given{T: x, I: i}, result{Err: api.ErrNone})
				makes(t, name, given{T: x, I: i, Name: "t_tid", Path: []string{"t_tid"}}, result{Err: api.ErrNone})
			}
			makes(t, "Path", given{T: x, I: i, Path: make([]string, 17)}, result{Err: api.ErrNone})
			makes(t, "Equal", given{T: x, I: i, U: x, J: i}, result{})
			if n > 0 {
				makes(t, "Equal", given{T: x, I: 0, U: x, J: i}, result{})
				makes(t, "Equal", given{T: x, I: i, U: x, J: 0}, result{})
			}
		}
	}
}

// P8.1: Lookup by each name, and by what is none: other texts, names of fields, and the empty name of an anonymous type.
func TestLookup(t *testing.T) {
	x := rich()
	for i, d := range x.Defs {
		if modelNamed(d) {
			makes(t, "Lookup", given{T: x, Name: d.Name}, result{N: i})
		}
		for _, f := range d.Fields {
			makes(t, "Lookup", given{T: x, Name: f.Name}, result{Err: api.ErrNone})
		}
	}
	for _, name := range []string{"", "thr_t *", "char [8]", "char [8] *", "proc_t ", " proc_t", "Proc_t", "proc", "proc_t\x00", "thread_t*", long(31), long(32), "*", strings.Repeat("y", 100000)} {
		makes(t, "Lookup", given{T: x, Name: name}, result{Err: api.ErrNone})
	}
	for _, name := range []string{"", "a"} {
		makes(t, "Lookup", given{Name: name}, result{Err: api.ErrNone})
	}
	makes(t, "Lookup", given{T: many("a", 200), Name: "a199"}, result{N: 199})
	makes(t, "Lookup", given{T: data(num(long(31), 1, true)), Name: long(31)}, result{})
}

// P8.1: Member of each structure, through aliases, and of what is no structure.
func TestMember(t *testing.T) {
	x := with(rich(), alias("alias_of_alias", thrT), alias("ptr_alias", thrPtr), alias("enum_alias", stateE))
	for i, d := range x.Defs {
		for _, f := range d.Fields {
			want := result{F: f}
			if d.Kind == api.DfEnum {
				want = result{Err: api.ErrForm}
			}
			makes(t, "Member", given{T: x, I: i, Name: f.Name}, want)
		}
	}
	for _, i := range []int{thrT, threadT, richEnd} {
		makes(t, "Member", given{T: x, I: i, Name: "t_name"}, result{F: field("t_name", charArr, 28)})
		for _, name := range []string{"", "t_nam", "t_name ", "T_name", "p_pid", "thread_t", long(32)} {
			makes(t, "Member", given{T: x, I: i, Name: name}, result{Err: api.ErrNone})
		}
	}
	for _, i := range []int{procPtr, charArr, thrPtr, stateE, thrArr, int32T, charT, arrPtr, ptrArr, ptrPtr, richEnd + 1, richEnd + 2} {
		for _, name := range []string{"", "t_name", "RUN", "int32"} {
			makes(t, "Member", given{T: x, I: i, Name: name}, result{Err: api.ErrForm})
		}
	}
	wide := one(rec("s", 512, fields(32, 16)...))
	for k := range 32 {
		makes(t, "Member", given{T: wide, I: 1, Name: fmt.Sprint("f", k)}, result{F: field(fmt.Sprint("f", k), 0, 16*k)})
	}
}

// P8.1: Path with no name, one, and several, and where it ends.
func TestPath(t *testing.T) {
	x := rich()
	for i := range x.Defs {
		makes(t, "Path", given{T: x, I: i}, result{N: i})
		makes(t, "Path", given{T: x, I: i, Path: []string{}}, result{N: i})
		makes(t, "Path", given{T: x, I: i, Path: same("x", 17)}, result{Err: api.ErrLong})
	}
	for _, c := range []struct {
		i    int
		path string
		want result
	}{
		{threadT, "t_proc", result{N: procPtr, At: 16}}, {thrT, "t_proc", result{N: procPtr, At: 16}}, {threadT, "t_tid", result{N: int32T}}, {procT, "p_main", result{N: threadT, At: 16}}, {procT, "p_main t_name", result{N: charArr, At: 44}}, {procT, "p_lock l_word", result{N: int32T, At: 500}}, {procT, "p_all", result{N: thrArr, At: 64}},
		// Not through pointers and arrays, nor through an enumeration or an integer.
		{threadT, "t_next t_tid", result{Err: api.ErrForm}}, {procT, "p_all t_tid", result{Err: api.ErrForm}}, {procT, "p_main t_state RUN", result{Err: api.ErrForm}}, {procT, "p_pid p_pid", result{Err: api.ErrForm}}, {thrPtr, "t_tid", result{Err: api.ErrForm}}, {int32T, "x", result{Err: api.ErrForm}},
		{procT, "t_tid", result{Err: api.ErrNone}}, {procT, "p_main p_main", result{Err: api.ErrNone}}, {procT, "p_main t_name x", result{Err: api.ErrForm}}, {procT, "x p_pid", result{Err: api.ErrNone}}, {procT, "x y z", result{Err: api.ErrNone}},
	} {
		makes(t, "Path", given{T: x, I: c.i, Path: strings.Fields(c.path)}, c.want)
	}
	makes(t, "Path", given{T: x, I: procT, Path: []string{""}}, result{Err: api.ErrNone})
	makes(t, "Path", given{T: x, I: procT, Path: []string{"p_main", ""}}, result{Err: api.ErrNone})
}

// P8.1: Path with 15, 16 and 17 names, a half of which lead through aliases.
func TestLongPath(t *testing.T) {
	x := chain(40)
	for name, inner := range map[string]int{"s0": 0, "a1": 1, "s1": 1, "s10": 10, "a21": 21, "s24": 24} {
		i, _ := modelLookup(x, name)
		for _, n := range []int{1, 2, 15, 16} {
			letter := []string{"s", "a"}[(inner+n)%2]
			to, _ := modelLookup(x, fmt.Sprint(letter, inner+n))
			makes(t, "Path", given{T: x, I: i, Path: same("m", n)}, result{N: to, At: n})
		}
		makes(t, "Path", given{T: x, I: i, Path: same("m", 17)}, result{Err: api.ErrLong})
		makes(t, "Path", given{T: x, I: i, Path: same("m", 100000)}, result{Err: api.ErrLong})
	}
	first, _ := modelLookup(x, "s0")
	// 17 names are too many even where they lead nowhere, and where the first one is none.
	makes(t, "Path", given{T: x, I: first, Path: same("x", 17)}, result{Err: api.ErrLong})
	makes(t, "Path", given{T: x, I: first, Path: slices.Repeat([]string{""}, 17)}, result{Err: api.ErrLong})
	makes(t, "Path", given{T: x, I: 0, Path: same("m", 17)}, result{Err: api.ErrLong})
	makes(t, "Path", given{T: x, I: 0, Path: same("m", 16)}, result{Err: api.ErrForm})
	makes(t, "Path", given{T: x, I: first, Path: append(same("m", 15), "x")}, result{Err: api.ErrNone})
}
