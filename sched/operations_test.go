package sched_test

import (
	"math"
	"slices"
	"testing"

	"tapline/api"
	"tapline/sched"
)

// sixteen is a state with 16 threads.
const sixteen = "q3 | 3r0 3b0 3d0 3x0 3b1 3b1 3d1 3d1 3b0 3b0 3b0 3b0 3b0 3b0 3b0 3b0 | 3/2 0 | -1/0"

// done is a call, the state ahead of it, and what it returns: the state, and the number or bool if it returns one.
type done struct {
	ahead, call, behind string
	n                   int
	flag                bool
}

func (c done) check(t *testing.T) {
	t.Helper()
	want := outcome{state: state(c.behind), n: c.n, flag: c.flag}
	if got := call(state(c.ahead), opOf(c.call)); !sameOutcome(got, want) {
		t.Errorf("%s of %s: %v; want %v", c.call, c.ahead, got, want)
	}
	if got := modelCall(state(c.ahead), opOf(c.call)); !sameOutcome(got, want) {
		t.Errorf("the model of %s of %s: %v; want %v", c.call, c.ahead, got, want)
	}
}

func checkAll(t *testing.T, cases []done) {
	t.Helper()
	for _, c := range cases {
		c.check(t)
	}
}

// P5.1: Add, at the end of the priority among greater, equal and lesser ones.
func TestAdd(t *testing.T) {
	checkAll(t, []done{
		{ahead: "q2 | | -1/0", call: "Add 0 0", behind: "q2 | 0r0 | -1/0 0"},
		{ahead: "q2 | | -1/0 | -1/0", call: "Add 7 1", behind: "q2 | 7r1 | -1/0 | -1/0 0"},
		{ahead: "q2 | 3r0 3r0 | -1/0 1 0", call: "Add 3 0", behind: "q2 | 3r0 3r0 3r0 | -1/0 1 0 2", n: 2},
		{ahead: "q2 | 3r0 3r0 | -1/0 1 0", call: "Add 4 0", behind: "q2 | 3r0 3r0 4r0 | -1/0 2 1 0", n: 2},
		{ahead: "q2 | 3r0 3r0 | -1/0 1 0", call: "Add 2 0", behind: "q2 | 3r0 3r0 2r0 | -1/0 1 0 2", n: 2},
		{ahead: "q2 | 5r0 3r0 3r0 1r0 | -1/0 0 2 1 3", call: "Add 3 0", behind: "q2 | 5r0 3r0 3r0 1r0 3r0 | -1/0 0 2 1 4 3", n: 4},
		{ahead: "q2 | 5r0 1r0 | -1/0 0 1", call: "Add 3 0", behind: "q2 | 5r0 1r0 3r0 | -1/0 0 2 1", n: 2},
		{ahead: "q2 | 5r0 1r0 | -1/0 0 1", call: "Add 7 0", behind: "q2 | 5r0 1r0 7r0 | -1/0 2 0 1", n: 2},
		{ahead: "q2 | 5r0 1r0 | -1/0 0 1", call: "Add 0 0", behind: "q2 | 5r0 1r0 0r0 | -1/0 0 1 2", n: 2},
		{ahead: "q2 | 3x0 3d0 3b0 | 0/1 | -1/0", call: "Add 7 0", behind: "q2 | 3x0 3d0 3b0 7r0 | 0/1 3 | -1/0", n: 3},
		{ahead: "q2 | 3x0 3d0 3b0 | 0/1 | -1/0", call: "Add 3 1", behind: "q2 | 3x0 3d0 3b0 3r1 | 0/1 | -1/0 3", n: 3},
		{ahead: "q3 | 3r0 3b0 3d0 3x0 3b1 3b1 3d1 3d1 3b0 3b0 3b0 3b0 3b0 3b0 3b0 | 3/2 0 | -1/0", call: "Add 3 0", behind: "q3 | 3r0 3b0 3d0 3x0 3b1 3b1 3d1 3d1 3b0 3b0 3b0 3b0 3b0 3b0 3b0 3r0 | 3/2 0 15 | -1/0", n: 15},
	})
}

// P5.1: End and Block of threads in each of the states; nobody is dispatched.
func TestEndAndBlock(t *testing.T) {
	checkAll(t, []done{
		{ahead: base, call: "End 0", behind: "q3 | 5d0 5x0 2r0 5r0 7b0 0d1 4r1 4x2 | 1/2 3 2 | -1/0 6 | 7/0"},
		{ahead: base, call: "End 3", behind: "q3 | 5r0 5x0 2r0 5d0 7b0 0d1 4r1 4x2 | 1/2 0 2 | -1/0 6 | 7/0"},
		{ahead: base, call: "End 2", behind: "q3 | 5r0 5x0 2d0 5r0 7b0 0d1 4r1 4x2 | 1/2 0 3 | -1/0 6 | 7/0"},
		{ahead: base, call: "End 6", behind: "q3 | 5r0 5x0 2r0 5r0 7b0 0d1 4d1 4x2 | 1/2 0 3 2 | -1/0 | 7/0"},
		{ahead: base, call: "End 1", behind: "q3 | 5r0 5d0 2r0 5r0 7b0 0d1 4r1 4x2 | -1/0 0 3 2 | -1/0 6 | 7/0"},
		{ahead: base, call: "End 7", behind: "q3 | 5r0 5x0 2r0 5r0 7b0 0d1 4r1 4d2 | 1/2 0 3 2 | -1/0 6 | -1/0"},
		{ahead: base, call: "End 4", behind: "q3 | 5r0 5x0 2r0 5r0 7d0 0d1 4r1 4x2 | 1/2 0 3 2 | -1/0 6 | 7/0"},
		{ahead: base, call: "Block 0", behind: "q3 | 5b0 5x0 2r0 5r0 7b0 0d1 4r1 4x2 | 1/2 3 2 | -1/0 6 | 7/0"},
		{ahead: base, call: "Block 3", behind: "q3 | 5r0 5x0 2r0 5b0 7b0 0d1 4r1 4x2 | 1/2 0 2 | -1/0 6 | 7/0"},
		{ahead: base, call: "Block 2", behind: "q3 | 5r0 5x0 2b0 5r0 7b0 0d1 4r1 4x2 | 1/2 0 3 | -1/0 6 | 7/0"},
		{ahead: base, call: "Block 6", behind: "q3 | 5r0 5x0 2r0 5r0 7b0 0d1 4b1 4x2 | 1/2 0 3 2 | -1/0 | 7/0"},
		{ahead: base, call: "Block 1", behind: "q3 | 5r0 5b0 2r0 5r0 7b0 0d1 4r1 4x2 | -1/0 0 3 2 | -1/0 6 | 7/0"},
		{ahead: base, call: "Block 7", behind: "q3 | 5r0 5x0 2r0 5r0 7b0 0d1 4r1 4b2 | 1/2 0 3 2 | -1/0 6 | -1/0"},
		{ahead: "q3 | 0x0 | 0/3", call: "End 0", behind: "q3 | 0d0 | -1/0"},
		{ahead: "q3 | 0x0 | 0/0", call: "Block 0", behind: "q3 | 0b0 | -1/0"},
	})
}

// P5.1: Wake, at the end of the priority, with a switch that is due, and one that is not.
func TestWake(t *testing.T) {
	checkAll(t, []done{
		{ahead: base, call: "Wake 4", behind: "q3 | 5r0 5x0 2r0 5r0 7r0 0d1 4r1 4x2 | 1/2 4 0 3 2 | -1/0 6 | 7/0", flag: true},
		{ahead: "q2 | 3b0 | -1/0", call: "Wake 0", behind: "q2 | 3r0 | -1/0 0", flag: true},
		{ahead: "q2 | 3b0 | -1/0 | -1/0", call: "Wake 0", behind: "q2 | 3r0 | -1/0 0 | -1/0", flag: true},
		{ahead: "q2 | 3b1 3x0 | 1/1 | -1/0", call: "Wake 0", behind: "q2 | 3r1 3x0 | 1/1 | -1/0 0", flag: true},
		{ahead: "q2 | 3b1 3r0 4x1 | -1/0 1 | 2/0", call: "Wake 0", behind: "q2 | 3r1 3r0 4x1 | -1/0 1 | 2/0 0"},
		{ahead: "q2 | 3b0 3x0 | 1/1", call: "Wake 0", behind: "q2 | 3r0 3x0 | 1/1 0"},
		{ahead: "q2 | 3b0 3x0 | 1/0", call: "Wake 0", behind: "q2 | 3r0 3x0 | 1/0 0", flag: true},
		{ahead: "q2 | 3b0 4x0 | 1/0", call: "Wake 0", behind: "q2 | 3r0 4x0 | 1/0 0"},
		{ahead: "q2 | 3b0 2x0 | 1/2", call: "Wake 0", behind: "q2 | 3r0 2x0 | 1/2 0", flag: true},
		{ahead: "q2 | 2b0 3x0 4r0 | 1/2 2", call: "Wake 0", behind: "q2 | 2r0 3x0 4r0 | 1/2 2 0", flag: true},
		{ahead: "q2 | 3b0 3r0 4r0 2r0 3r0 | -1/0 2 4 1 3", call: "Wake 0", behind: "q2 | 3r0 3r0 4r0 2r0 3r0 | -1/0 2 4 1 0 3", flag: true},
		{ahead: "q2 | 5b0 3r0 4r0 2r0 3r0 | -1/0 2 4 1 3", call: "Wake 0", behind: "q2 | 5r0 3r0 4r0 2r0 3r0 | -1/0 0 2 4 1 3", flag: true},
		{ahead: "q2 | 0b0 3r0 4r0 2r0 3r0 | -1/0 2 4 1 3", call: "Wake 0", behind: "q2 | 0r0 3r0 4r0 2r0 3r0 | -1/0 2 4 1 3 0", flag: true},
	})
}

// P5.1: each of the three ways in which a switch is due, and each of them just missed.
func TestDue(t *testing.T) {
	for _, c := range []struct {
		text string
		want []bool // by processors
	}{
		{"q2 | | -1/0", []bool{false}},
		{"q2 | 3b0 | -1/0", []bool{false}},
		{"q2 | 3x0 | 0/2", []bool{false}}, {"q2 | 3x0 | 0/0", []bool{false}},
		{"q2 | 0r0 | -1/0 0", []bool{true}}, {"q2 | 7r0 0r0 | -1/0 0 1", []bool{true}},
		{"q2 | 3x0 4r0 | 0/2 1", []bool{true}}, {"q2 | 3x0 4r0 | 0/0 1", []bool{true}}, {"q2 | 0x0 7r0 0r0 | 0/1 1 2", []bool{true}},
		{"q2 | 3x0 3r0 | 0/2 1", []bool{false}}, {"q2 | 3x0 3r0 | 0/1 1", []bool{false}}, {"q2 | 3x0 3r0 | 0/0 1", []bool{true}}, {"q2 | 7x0 7r0 7r0 | 0/0 2 1", []bool{true}}, {"q2 | 0x0 0r0 | 0/0 1", []bool{true}},
		{"q2 | 3x0 2r0 | 0/0 1", []bool{false}}, {"q2 | 3x0 2r0 | 0/1 1", []bool{false}}, {"q2 | 7x0 6r0 0r0 | 0/0 1 2", []bool{false}},
		{"q2 | 3x0 7r1 | 0/0 | -1/0 1", []bool{false, true}}, {"q2 | 3x1 7r0 | -1/0 1 | 0/0", []bool{true, false}}, {"q2 | 3x1 7b1 7r1 7d1 | -1/0 | 0/2 2 | -1/0", []bool{false, true, false}},
		{base, []bool{false, true, false}},
	} {
		s := state(c.text)
		for cpu, want := range c.want {
			if got := sched.Due(s, cpu); got != want || modelOf(s).due(cpu) != want {
				t.Errorf("Due(%s, %d) = %v", c.text, cpu, got)
			}
		}
		for _, cpu := range []int{math.MinInt, -2, -1, len(c.want), len(c.want) + 1, 1 << 32, math.MaxInt} {
			if sched.Due(s, cpu) {
				t.Errorf("Due(%s, %d)", c.text, cpu)
			}
		}
	}
}

// P5.1: Switch of a preempted thread and of one whose slice is used up, of an idle processor, with an empty Ready, and where only Left is renewed.
func TestSwitch(t *testing.T) {
	checkAll(t, []done{
		{ahead: "q2 | | -1/0", call: "Switch 0", behind: "q2 | | -1/0", n: -1},
		{ahead: "q2 | 3b0 3d0 3r1 | -1/0 | -1/0 2", call: "Switch 0", behind: "q2 | 3b0 3d0 3r1 | -1/0 | -1/0 2", n: -1},
		{ahead: "q2 | 3b0 3d0 3r1 | -1/0 | -1/0 2", call: "Switch 1", behind: "q2 | 3b0 3d0 3x1 | -1/0 | 2/2", n: 2},
		{ahead: "q20 | 0r0 | -1/0 0", call: "Switch 0", behind: "q20 | 0x0 | 0/20"},
		{ahead: "q5 | 3r0 3r0 5r0 | -1/0 2 1 0", call: "Switch 0", behind: "q5 | 3r0 3r0 5x0 | 2/5 1 0", n: 2},
		// Preempted: at the front of its priority.
		{ahead: "q5 | 3x0 3r0 5r0 | 0/1 2 1", call: "Switch 0", behind: "q5 | 3r0 3r0 5x0 | 2/5 0 1", n: 2},
		{ahead: "q5 | 3x0 3r0 5r0 4r0 2r0 3r0 | 0/5 2 3 5 1 4", call: "Switch 0", behind: "q5 | 3r0 3r0 5x0 4r0 2r0 3r0 | 2/5 3 0 5 1 4", n: 2},
		{ahead: "q5 | 3x0 5r0 | 0/1 1", call: "Switch 0", behind: "q5 | 3r0 5x0 | 1/5 0", n: 1},
		{ahead: "q5 | 0x0 5r0 3r0 | 0/1 1 2", call: "Switch 0", behind: "q5 | 0r0 5x0 3r0 | 1/5 2 0", n: 1},
		// Preempted with a slice that is used up: at the end of its priority.
		{ahead: "q5 | 3x0 3r0 5r0 4r0 2r0 3r0 | 0/0 2 3 5 1 4", call: "Switch 0", behind: "q5 | 3r0 3r0 5x0 4r0 2r0 3r0 | 2/5 3 5 1 0 4", n: 2},
		// The slice is used up, and others have the same priority.
		{ahead: "q5 | 3x0 3r0 | 0/0 1", call: "Switch 0", behind: "q5 | 3r0 3x0 | 1/5 0", n: 1},
		{ahead: "q5 | 3x0 3r0 3r0 2r0 | 0/0 2 1 3", call: "Switch 0", behind: "q5 | 3r0 3r0 3x0 2r0 | 2/5 1 0 3", n: 2},
		{ahead: "q5 | 3x0 3r0 3r0 2r0 | 0/1 2 1 3", call: "Switch 0", behind: "q5 | 3x0 3r0 3r0 2r0 | 0/1 2 1 3"},
		// Only Left is renewed.
		{ahead: "q5 | 3x0 | 0/0", call: "Switch 0", behind: "q5 | 3x0 | 0/5"},
		{ahead: "q5 | 3x0 2r0 | 0/0 1", call: "Switch 0", behind: "q5 | 3x0 2r0 | 0/5 1"},
		{ahead: "q5 | 2r0 3x0 4x1 | 1/0 0 | 2/0", call: "Switch 0", behind: "q5 | 2r0 3x0 4x1 | 1/5 0 | 2/0", n: 1},
		// Nothing changes.
		{ahead: "q5 | 3x0 2r0 | 0/1 1", call: "Switch 0", behind: "q5 | 3x0 2r0 | 0/1 1"}, {ahead: "q5 | 3x0 | 0/4", call: "Switch 0", behind: "q5 | 3x0 | 0/4"}, {ahead: "q5 | 3x0 3r0 | 0/5 1", call: "Switch 0", behind: "q5 | 3x0 3r0 | 0/5 1"},
		{ahead: base, call: "Switch 0", behind: base, n: 1},
		{ahead: base, call: "Switch 1", behind: "q3 | 5r0 5x0 2r0 5r0 7b0 0d1 4x1 4x2 | 1/2 0 3 2 | 6/3 | 7/0", n: 6},
		{ahead: base, call: "Switch 2", behind: "q3 | 5r0 5x0 2r0 5r0 7b0 0d1 4r1 4x2 | 1/2 0 3 2 | -1/0 6 | 7/3", n: 7},
	})
}

// P5.1: Tick with Left 0, 1 and Quantum, and without a running thread.
func TestTick(t *testing.T) {
	checkAll(t, []done{
		{ahead: "q3 | | -1/0", call: "Tick 0", behind: "q3 | | -1/0"},
		{ahead: "q3 | 3r0 | -1/0 0", call: "Tick 0", behind: "q3 | 3r0 | -1/0 0", flag: true},
		{ahead: "q3 | 3x0 | 0/0", call: "Tick 0", behind: "q3 | 3x0 | 0/0"}, {ahead: "q3 | 3x0 | 0/1", call: "Tick 0", behind: "q3 | 3x0 | 0/0"}, {ahead: "q3 | 3x0 | 0/3", call: "Tick 0", behind: "q3 | 3x0 | 0/2"},
		{ahead: "q3 | 3x0 3r0 | 0/0 1", call: "Tick 0", behind: "q3 | 3x0 3r0 | 0/0 1", flag: true}, {ahead: "q3 | 3x0 3r0 | 0/1 1", call: "Tick 0", behind: "q3 | 3x0 3r0 | 0/0 1", flag: true}, {ahead: "q3 | 3x0 3r0 | 0/2 1", call: "Tick 0", behind: "q3 | 3x0 3r0 | 0/1 1"}, {ahead: "q3 | 3x0 3r0 | 0/3 1", call: "Tick 0", behind: "q3 | 3x0 3r0 | 0/2 1"},
		{ahead: "q3 | 3x0 4r0 | 0/3 1", call: "Tick 0", behind: "q3 | 3x0 4r0 | 0/2 1", flag: true}, {ahead: "q3 | 3x0 2r0 | 0/1 1", call: "Tick 0", behind: "q3 | 3x0 2r0 | 0/0 1"},
		{ahead: "q3 | 3x0 2r1 | 0/2 | -1/0 1", call: "Tick 0", behind: "q3 | 3x0 2r1 | 0/1 | -1/0 1"}, {ahead: "q3 | 3x0 2r1 | 0/2 | -1/0 1", call: "Tick 1", behind: "q3 | 3x0 2r1 | 0/2 | -1/0 1", flag: true},
		{ahead: "q3 | 3x0 2x1 | 0/2 | 1/2", call: "Tick 1", behind: "q3 | 3x0 2x1 | 0/2 | 1/1"},
		{ahead: "q20 | 3x0 | 0/20", call: "Tick 0", behind: "q20 | 3x0 | 0/19"}, {ahead: "q1 | 3x0 | 0/1", call: "Tick 0", behind: "q1 | 3x0 | 0/0"},
	})
}

// P5.1: Yield, with any time slice; nobody is dispatched.
func TestYield(t *testing.T) {
	checkAll(t, []done{
		{ahead: "q3 | 3x0 | 0/0", call: "Yield 0", behind: "q3 | 3x0 | 0/0"}, {ahead: "q3 | 3x0 | 0/1", call: "Yield 0", behind: "q3 | 3x0 | 0/0"}, {ahead: "q3 | 3x0 | 0/3", call: "Yield 0", behind: "q3 | 3x0 | 0/0"},
		{ahead: "q3 | 3x0 3r0 | 0/3 1", call: "Yield 0", behind: "q3 | 3x0 3r0 | 0/0 1"},
		{ahead: "q3 | 3x0 3x1 | 0/3 | 1/3", call: "Yield 1", behind: "q3 | 3x0 3x1 | 0/3 | 1/0"},
	})
}

// P5.1: SetPri to the same priority, to 0, to 7 and to others, of ready, running and blocked threads.
func TestSetPri(t *testing.T) {
	checkAll(t, []done{
		{ahead: base, call: "SetPri 0 5", behind: "q3 | 5r0 5x0 2r0 5r0 7b0 0d1 4r1 4x2 | 1/2 3 0 2 | -1/0 6 | 7/0"},
		{ahead: base, call: "SetPri 3 5", behind: base},
		{ahead: base, call: "SetPri 2 2", behind: base},
		{ahead: base, call: "SetPri 0 0", behind: "q3 | 0r0 5x0 2r0 5r0 7b0 0d1 4r1 4x2 | 1/2 3 2 0 | -1/0 6 | 7/0"},
		{ahead: base, call: "SetPri 0 2", behind: "q3 | 2r0 5x0 2r0 5r0 7b0 0d1 4r1 4x2 | 1/2 3 2 0 | -1/0 6 | 7/0"},
		{ahead: base, call: "SetPri 0 3", behind: "q3 | 3r0 5x0 2r0 5r0 7b0 0d1 4r1 4x2 | 1/2 3 0 2 | -1/0 6 | 7/0"},
		{ahead: base, call: "SetPri 2 7", behind: "q3 | 5r0 5x0 7r0 5r0 7b0 0d1 4r1 4x2 | 1/2 2 0 3 | -1/0 6 | 7/0"},
		{ahead: base, call: "SetPri 2 5", behind: "q3 | 5r0 5x0 5r0 5r0 7b0 0d1 4r1 4x2 | 1/2 0 3 2 | -1/0 6 | 7/0"},
		{ahead: base, call: "SetPri 6 0", behind: "q3 | 5r0 5x0 2r0 5r0 7b0 0d1 0r1 4x2 | 1/2 0 3 2 | -1/0 6 | 7/0"},
		{ahead: base, call: "SetPri 1 5", behind: base},
		{ahead: base, call: "SetPri 1 0", behind: "q3 | 5r0 0x0 2r0 5r0 7b0 0d1 4r1 4x2 | 1/2 0 3 2 | -1/0 6 | 7/0"},
		{ahead: base, call: "SetPri 1 7", behind: "q3 | 5r0 7x0 2r0 5r0 7b0 0d1 4r1 4x2 | 1/2 0 3 2 | -1/0 6 | 7/0"},
		{ahead: base, call: "SetPri 7 7", behind: "q3 | 5r0 5x0 2r0 5r0 7b0 0d1 4r1 7x2 | 1/2 0 3 2 | -1/0 6 | 7/0"},
		{ahead: base, call: "SetPri 4 7", behind: base},
		{ahead: base, call: "SetPri 4 0", behind: "q3 | 5r0 5x0 2r0 5r0 0b0 0d1 4r1 4x2 | 1/2 0 3 2 | -1/0 6 | 7/0"},
		{ahead: "q2 | 3r0 3r0 3r0 | -1/0 0 1 2", call: "SetPri 1 3", behind: "q2 | 3r0 3r0 3r0 | -1/0 0 2 1"},
		{ahead: "q2 | 3r0 3r0 3r0 | -1/0 0 1 2", call: "SetPri 0 3", behind: "q2 | 3r0 3r0 3r0 | -1/0 1 2 0"},
	})
}

// P5.1: Steal with several fullest processors, with fullest ones that have one thread, or ready ones alone, and of a processor that is not idle, or itself the fullest one.
func TestSteal(t *testing.T) {
	checkAll(t, []done{
		{ahead: "q2 | | -1/0", call: "Steal 0", behind: "q2 | | -1/0", n: -1},
		{ahead: "q2 | 3b0 3d1 | -1/0 | -1/0", call: "Steal 1", behind: "q2 | 3b0 3d1 | -1/0 | -1/0", n: -1},
		{ahead: "q2 | 3x0 3r0 | 0/2 1 | -1/0", call: "Steal 1", behind: "q2 | 3x0 3r1 | 0/2 | -1/0 1", n: 1},
		{ahead: "q2 | 3r0 2r0 2r0 | -1/0 0 2 1 | -1/0", call: "Steal 1", behind: "q2 | 3r1 2r0 2r0 | -1/0 2 1 | -1/0 0"},
		{ahead: "q2 | 3r0 2r0 | -1/0 0 1 | -1/0", call: "Steal 1", behind: "q2 | 3r1 2r0 | -1/0 1 | -1/0 0"},
		{ahead: "q2 | 2r0 3r0 7x0 3r0 | 2/0 3 1 0 | -1/0", call: "Steal 1", behind: "q2 | 2r0 3r0 7x0 3r1 | 2/0 1 0 | -1/0 3", n: 3},
		// The fullest one has one thread.
		{ahead: "q2 | 3r0 | -1/0 0 | -1/0", call: "Steal 1", behind: "q2 | 3r0 | -1/0 0 | -1/0", n: -1}, {ahead: "q2 | 3x0 | 0/1 | -1/0", call: "Steal 1", behind: "q2 | 3x0 | 0/1 | -1/0", n: -1}, {ahead: "q2 | 3x0 3b0 3d0 | 0/1 | -1/0", call: "Steal 1", behind: "q2 | 3x0 3b0 3d0 | 0/1 | -1/0", n: -1},
		// Several fullest ones: that with the smallest index.
		{ahead: "q2 | 1r1 1r1 7r3 7r3 | -1/0 | -1/0 1 0 | -1/0 | -1/0 2 3", call: "Steal 2", behind: "q2 | 1r1 1r2 7r3 7r3 | -1/0 | -1/0 0 | -1/0 1 | -1/0 2 3", n: 1},
		{ahead: "q2 | 1x1 1r1 7r3 7r3 | -1/0 | 0/1 1 | -1/0 | -1/0 2 3", call: "Steal 0", behind: "q2 | 1x1 1r0 7r3 7r3 | -1/0 1 | 0/1 | -1/0 | -1/0 2 3", n: 1},
		{ahead: "q2 | 1r2 1r2 7x1 7r1 | -1/0 | 2/2 3 | -1/0 0 1", call: "Steal 0", behind: "q2 | 1r2 1r2 7x1 7r0 | -1/0 3 | 2/2 | -1/0 0 1", n: 3},
		// The one with more threads, though with less ready ones, or with a greater index.
		{ahead: "q2 | 1r1 1r1 7x2 7r2 7r2 | -1/0 | -1/0 0 1 | 2/2 4 3", call: "Steal 0", behind: "q2 | 1r1 1r1 7x2 7r2 7r0 | -1/0 4 | -1/0 0 1 | 2/2 3", n: 4},
		{ahead: "q2 | 1x1 1r1 0r2 0r2 0r2 | -1/0 | 0/1 1 | -1/0 4 3 2", call: "Steal 0", behind: "q2 | 1x1 1r1 0r2 0r2 0r0 | -1/0 4 | 0/1 1 | -1/0 3 2", n: 4},
		{ahead: "q2 | 1b1 1b1 1d1 0r2 0r2 | -1/0 | -1/0 | -1/0 4 3", call: "Steal 0", behind: "q2 | 1b1 1b1 1d1 0r2 0r0 | -1/0 4 | -1/0 | -1/0 3", n: 4},
		// Not idle, or with a ready thread, or itself the fullest one.
		{ahead: "q2 | 3x0 3r0 2x1 | 0/2 1 | 2/0", call: "Steal 1", behind: "q2 | 3x0 3r0 2x1 | 0/2 1 | 2/0", n: -1}, {ahead: "q2 | 3x0 3r0 2r1 | 0/2 1 | -1/0 2", call: "Steal 1", behind: "q2 | 3x0 3r0 2r1 | 0/2 1 | -1/0 2", n: -1},
		{ahead: "q2 | 3r0 3r0 2x1 | -1/0 1 0 | 2/1", call: "Steal 0", behind: "q2 | 3r0 3r0 2x1 | -1/0 1 0 | 2/1", n: -1}, {ahead: "q2 | 3x0 3r0 | 0/2 1", call: "Steal 0", behind: "q2 | 3x0 3r0 | 0/2 1", n: -1}, {ahead: "q2 | 3x0 3r0 | 0/2 1 | -1/0", call: "Steal 0", behind: "q2 | 3x0 3r0 | 0/2 1 | -1/0", n: -1},
		{ahead: base, call: "Steal 1", behind: base, n: -1}, {ahead: base, call: "Steal 0", behind: base, n: -1}, {ahead: base, call: "Steal 2", behind: base, n: -1},
	})
}

// P5.1: the examples of the chapter.
func TestExamples(t *testing.T) {
	s, e := sched.New(1, 2)
	if e != api.OK {
		t.Fatal(e)
	}
	for _, c := range []struct {
		call, behind string
		n            int
		flag         bool
	}{
		{"Add 3 0", "q2 | 3r0 | -1/0 0", 0, false}, {"Add 3 0", "q2 | 3r0 3r0 | -1/0 0 1", 1, false}, {"Add 5 0", "q2 | 3r0 3r0 5r0 | -1/0 2 0 1", 2, false},
		{"Switch 0", "q2 | 3r0 3r0 5x0 | 2/2 0 1", 2, false},
		{"Tick 0", "q2 | 3r0 3r0 5x0 | 2/1 0 1", 0, false}, {"Tick 0", "q2 | 3r0 3r0 5x0 | 2/0 0 1", 0, false}, {"Switch 0", "q2 | 3r0 3r0 5x0 | 2/2 0 1", 2, false},
		{"Block 2", "q2 | 3r0 3r0 5b0 | -1/0 0 1", 0, false}, {"Switch 0", "q2 | 3x0 3r0 5b0 | 0/2 1", 0, false},
		{"Tick 0", "q2 | 3x0 3r0 5b0 | 0/1 1", 0, false}, {"Tick 0", "q2 | 3x0 3r0 5b0 | 0/0 1", 0, true}, {"Switch 0", "q2 | 3r0 3x0 5b0 | 1/2 0", 1, false},
		{"Tick 0", "q2 | 3r0 3x0 5b0 | 1/1 0", 0, false}, {"Wake 2", "q2 | 3r0 3x0 5r0 | 1/1 2 0", 0, true}, {"Switch 0", "q2 | 3r0 3r0 5x0 | 2/2 1 0", 2, false},
		{"End 2", "q2 | 3r0 3r0 5d0 | -1/0 1 0", 0, false}, {"Switch 0", "q2 | 3r0 3x0 5d0 | 1/2 0", 1, false},
		{"SetPri 1 1", "q2 | 3r0 1x0 5d0 | 1/2 0", 0, false}, {"Switch 0", "q2 | 3x0 1r0 5d0 | 0/2 1", 0, false},
		{"Yield 0", "q2 | 3x0 1r0 5d0 | 0/0 1", 0, false}, {"Switch 0", "q2 | 3x0 1r0 5d0 | 0/2 1", 0, false},
	} {
		out := call(s, opOf(c.call))
		if want := (outcome{state(c.behind), c.n, c.flag, api.OK}); !sameOutcome(out, want) {
			t.Fatalf("%s of %s: %v; want %v", c.call, show(s), out, want)
		}
		s = out.state
	}
}

// P5.1: all functions against the model, on random states.
func TestModel(t *testing.T) {
	m := newMaker()
	count := map[string]int{}
	for range 40000 {
		s := m.valid()
		o := m.op(s)
		got, want := call(s, o), modelCall(s, o)
		if !sameOutcome(got, want) {
			t.Fatalf("%v of %s: %v; want %v", o, show(s), got, want)
		}
		for cpu := range s.Cpus {
			if sched.Due(s, cpu) != modelOf(s).due(cpu) {
				t.Fatalf("Due(%s, %d) = %v", show(s), cpu, sched.Due(s, cpu))
			}
		}
		if got.err == api.OK {
			count[o.name]++
		}
		if o.name == "Steal" && got.n > 0 {
			count["stolen"]++
		}
	}
	for _, name := range append([]string{"stolen"}, opNames...) {
		if count[name] < 200 {
			t.Errorf("too few cases of %s: %v", name, count)
		}
	}
}

// P5.1: long runs of calls, each on the state that the one before it returned, against the model.
func TestRunsOfCalls(t *testing.T) {
	m := newMaker()
	for range 150 {
		s, _ := sched.New(1+m.Intn(4), 1+m.Intn(4))
		for range 150 {
			o := m.op(s)
			got, want := call(s, o), modelCall(s, o)
			if !sameOutcome(got, want) {
				t.Fatalf("%v of %s: %v; want %v", o, show(s), got, want)
			}
			if got.err == api.OK {
				s = got.state
			}
		}
	}
}

// P5.1: all functions against the model, on each state with one processor and up to three threads of three priorities.
func TestSmallStates(t *testing.T) {
	n := 0
	every(func(s api.Sched) {
		n++
		calls := []op{{"Switch", 0, 0}, {"Tick", 0, 0}, {"Yield", 0, 0}, {"Steal", 0, 0}, {"Add", 3, 0}, {"Add", 4, 0}, {"Add", 5, 0}}
		for thr := range s.Threads {
			calls = append(calls, op{"End", thr, 0}, op{"Block", thr, 0}, op{"Wake", thr, 0}, op{"SetPri", thr, 3}, op{"SetPri", thr, 4}, op{"SetPri", thr, 5})
		}
		for _, o := range calls {
			if got, want := call(s, o), modelCall(s, o); !sameOutcome(got, want) {
				t.Errorf("%v of %s: %v; want %v", o, show(s), got, want)
			}
		}
		if sched.Due(s, 0) != modelOf(s).due(0) || sched.Check(s) != api.OK {
			t.Errorf("Due(%s) = %v, Check %d", show(s), sched.Due(s, 0), sched.Check(s))
		}
	})
	if n < 2500 {
		t.Errorf("only %d states", n)
	}
}

// P5.1: processors and threads that do not exist, or are in a state that the function does not permit; several errors at once.
func TestErrors(t *testing.T) {
	for _, c := range []struct {
		text  string
		err   api.Errno
		calls []string
	}{
		{base, api.ErrCpu, []string{"Add 3 3", "Add 3 -1", "Switch 3", "Switch -1", "Tick 3", "Tick -1", "Yield 3", "Yield -1", "Steal 3", "Steal -1", "Yield 1"}},
		{base, api.ErrThread, []string{"End 8", "End -1", "Block 8", "Block -1", "Wake 8", "Wake -1", "SetPri 8 3", "SetPri -1 3"}},
		{base, api.ErrThread, []string{"End 5", "Block 5", "Wake 5", "SetPri 5 3", "SetPri 5 0", "Block 4", "Wake 0", "Wake 1", "Wake 2", "Wake 7"}},
		{base, api.ErrArg, []string{"Add 8 0", "Add -1 2", "SetPri 0 8", "SetPri 1 8", "SetPri 4 8", "SetPri 0 -1", "SetPri 1 -1", "SetPri 4 -1"}},
		{base, api.ErrCpu, []string{"Add 8 3", "Add -1 -1"}},
		{base, api.ErrThread, []string{"SetPri 8 8", "SetPri 5 8", "SetPri -1 -1", "SetPri 5 -1"}},
		{sixteen, api.ErrLong, []string{"Add 3 0", "Add 0 1", "Add 7 0"}},
		{sixteen, api.ErrArg, []string{"Add 8 0", "Add -1 1"}},
		{sixteen, api.ErrCpu, []string{"Add 3 2", "Add 3 -1", "Add 8 2", "Add -1 -1", "Yield 1"}},
		{sixteen, api.ErrThread, []string{"End 16", "Block 16", "Wake 16", "SetPri 16 3", "SetPri 16 8"}},
		{"q2 | | -1/0", api.ErrThread, []string{"End 0", "Block 0", "Wake 0", "SetPri 0 3", "SetPri 0 8"}},
		{"q2 | | -1/0", api.ErrCpu, []string{"Yield 0", "Add 3 1", "Switch 1", "Tick 1", "Yield 1", "Steal 1"}},
		{"q2 | 3r0 | -1/0 0", api.ErrCpu, []string{"Yield 0"}},
	} {
		s := state(c.text)
		for _, text := range c.calls {
			if out := call(s, opOf(text)); out.err != c.err || !isZero(out) {
				t.Errorf("%s of %s: %v; want error %d", text, c.text, out, c.err)
			}
		}
	}
	for _, n := range []int{math.MinInt, math.MinInt + 1, -1 << 32, 1 << 32, 1<<32 + 1, math.MaxInt} {
		for _, name := range opNames {
			s := state(base)
			for _, o := range []op{{name, n, n}, {name, 0, n}, {name, n, 0}} {
				out, e := call(s, o), modelCall(s, o).err
				if out.err != e || e != api.OK && !isZero(out) {
					t.Errorf("%v: %v; want error %d", o, out, e)
				}
			}
		}
	}
}

// spare returns a state in new memory, whose lists have room for more, filled with something.
func spare(s api.Sched) api.Sched {
	s = clone(s)
	s.Cpus = append(s.Cpus, api.CpuQ{Run: 77, Left: 78, Ready: []int{79}})[:len(s.Cpus)]
	s.Threads = append(s.Threads, api.Slot{Pri: 81, Cpu: 82, State: 83})[:len(s.Threads)]
	for i, q := range s.Cpus {
		s.Cpus[i].Ready = append(q.Ready, 84, 85)[:len(q.Ready)]
	}
	return s
}

// scribble changes all memory behind the lists of a state.
func scribble(s api.Sched) {
	for _, q := range s.Cpus {
		for i := range q.Ready[:cap(q.Ready)] {
			q.Ready[:cap(q.Ready)][i] = -99
		}
	}
	for i := range s.Cpus[:cap(s.Cpus)] {
		s.Cpus[:cap(s.Cpus)][i] = api.CpuQ{Run: -99}
	}
	for i := range s.Threads[:cap(s.Threads)] {
		s.Threads[:cap(s.Threads)][i] = api.Slot{Pri: -99}
	}
}

// apart reports whether the Ready lists of a state share no memory.
func apart(s api.Sched) bool {
	for i, q := range s.Cpus {
		kept := clone(s)
		whole := q.Ready[:cap(q.Ready)]
		old := slices.Clone(whole)
		for k := range whole {
			whole[k] = -99
		}
		for k := range s.Cpus {
			if k != i && !slices.Equal(s.Cpus[k].Ready, kept.Cpus[k].Ready) {
				return false
			}
		}
		copy(whole, old)
	}
	return true
}

// P5.1: no function that returns a state changes its argument, or returns a state that shares memory with it, whether something changes or not, and with an error.
func TestMemoryOfStates(t *testing.T) {
	for _, name := range opNames {
		t.Run(name, func(t *testing.T) {
			m := newMaker()
			same, changed, failed := 0, 0, 0
			for range 3000 {
				ahead := m.valid()
				o := m.op(ahead)
				o.name = name
				s := spare(ahead)
				kept := spare(ahead)
				out := call(s, o)
				if !identical(s, kept) {
					t.Fatalf("%v changes %s to %s", o, show(kept), show(s))
				}
				switch {
				case out.err != api.OK:
					failed++
					continue
				case equal(out.state, ahead):
					same++
				default:
					changed++
				}
				want := show(out.state)
				if !apart(out.state) {
					t.Fatalf("%v of %s: lists of the result share memory", o, show(ahead))
				}
				copied := clone(out.state)
				scribble(out.state)
				if !identical(s, kept) {
					t.Fatalf("%v of %s: the result shares memory with the argument", o, show(ahead))
				}
				again := call(s, o)
				scribble(s)
				if show(copied) != want || show(again.state) != want {
					t.Fatalf("%v of %s: the argument shares memory with the result", o, show(ahead))
				}
			}
			if changed < 50 || failed < 50 {
				t.Errorf("too few cases: %d same, %d changed, %d errors", same, changed, failed)
			}
		})
	}
}

// P5.1: the lists of what New returns share no memory, and two results share none.
func TestMemoryOfNew(t *testing.T) {
	s, _ := sched.New(4, 3)
	u, _ := sched.New(4, 3)
	if !apart(s) {
		t.Error("lists of one result share memory")
	}
	scribble(s)
	if again, _ := sched.New(4, 3); !equal(u, again) || sched.Check(u) != api.OK {
		t.Errorf("New behind a change of a result: %s", show(again))
	}
}

// P5.1: Check, Due and Same change no argument.
func TestMemoryOfQuestions(t *testing.T) {
	m := newMaker()
	for range 2000 {
		ahead := m.broken()
		s, kept := spare(ahead), spare(ahead)
		sched.Check(s)
		sched.Due(s, 0)
		sched.Same(s, s)
		if !identical(s, kept) {
			t.Fatalf("Check, Due or Same changes %s to %s", show(kept), show(s))
		}
	}
}
