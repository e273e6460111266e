package flow_test

import (
	"math"
	"slices"
	"sync"
	"testing"

	"swage/api"
	"swage/flow"
)

const modulus = 4294967296

// straight are instructions behind which comes the next one, and no other.
var straight = [...]api.Ins{
	{Kind: 0, A: 1}, {Kind: 0, A: -2147483648}, {Kind: 0, A: 2147483647},
	{Kind: 1, A: 0}, {Kind: 1, A: 2}, {Kind: 1, A: 7},
	{Kind: 2, A: 0}, {Kind: 2, A: 2}, {Kind: 2, A: 7},
	{Kind: 3}, {Kind: 4}, {Kind: 5}, {Kind: 6}, {Kind: 7}, {Kind: 8}, {Kind: 9}, {Kind: 10}, {Kind: 11},
	{Kind: 14, A: 0}, {Kind: 14, A: 2}, {Kind: 14, A: 7}, {Kind: 15},
}

// wrongIns may not be; most are as others that may be, if some bits are cut off.
var wrongIns = [...]api.Ins{
	{Kind: -1}, {Kind: 17}, {Kind: 256 + api.InsRet}, {Kind: modulus}, {Kind: math.MaxInt}, {Kind: math.MinInt},
	{Kind: api.InsConst, A: -2147483649}, {Kind: api.InsConst, A: 2147483648},
	{Kind: api.InsLoad, A: -1}, {Kind: api.InsLoad, A: 8}, {Kind: api.InsStore, A: -1}, {Kind: api.InsStore, A: 8},
	{Kind: api.InsJump, A: -1}, {Kind: api.InsJump, A: 64}, {Kind: api.InsJump, A: math.MinInt}, {Kind: api.InsJump, A: math.MaxInt},
	{Kind: api.InsZero, A: -1}, {Kind: api.InsZero, A: 64}, {Kind: api.InsZero, A: math.MinInt}, {Kind: api.InsZero, A: math.MaxInt},
	{Kind: api.InsCall, A: -1}, {Kind: api.InsCall, A: 8},
	{Kind: api.InsAdd, A: 1}, {Kind: api.InsLt, A: -1}, {Kind: api.InsDup, A: 1}, {Kind: api.InsDrop, A: 1},
	{Kind: api.InsPrint, A: 1}, {Kind: api.InsRet, A: -1}, {Kind: api.InsRet, A: modulus},
}

func TestNextOfStraightInstructions(t *testing.T) {
	for _, i := range straight {
		expectNext(t, function(i, drop, drop), 0, 1)
		expectNext(t, function(drop, i, drop), 1, 2)
		expectNext(t, function(drop, drop, i), 2)
		expectNext(t, function(i), 0)
	}
}

func TestNextOfReturns(t *testing.T) {
	expectNext(t, function(ret), 0)
	expectNext(t, function(ret, drop), 0)
	expectNext(t, function(drop, ret, drop), 1)
}

func TestNextOfJumps(t *testing.T) {
	expectNext(t, function(drop, jump(0), drop, drop), 1, 0)
	expectNext(t, function(drop, jump(1), drop, drop), 1, 1)
	expectNext(t, function(drop, jump(2), drop, drop), 1, 2)
	expectNext(t, function(drop, jump(3), drop, drop), 1, 3)
	expectNext(t, function(drop, jump(4), drop, drop), 1)
	expectNext(t, function(drop, jump(63), drop, drop), 1)
	expectNext(t, function(drop, jump(0)), 1, 0)
	expectNext(t, function(drop, jump(2)), 1)
	expectNext(t, function(jump(0)), 0, 0)
	expectNext(t, function(jump(1)), 0)
}

// TestNextOfZeros has the pc right behind ahead of A, even if A is the lesser.
func TestNextOfZeros(t *testing.T) {
	expectNext(t, function(drop, zero(0), drop, drop), 1, 2, 0)
	expectNext(t, function(drop, zero(1), drop, drop), 1, 2, 1)
	expectNext(t, function(drop, zero(2), drop, drop), 1, 2)
	expectNext(t, function(drop, zero(3), drop, drop), 1, 2, 3)
	expectNext(t, function(drop, zero(4), drop, drop), 1, 2)
	expectNext(t, function(drop, zero(63), drop, drop), 1, 2)
	expectNext(t, function(drop, zero(0)), 1, 0)
	expectNext(t, function(drop, zero(1)), 1, 1)
	expectNext(t, function(drop, zero(2)), 1)
	expectNext(t, function(drop, zero(3)), 1)
	expectNext(t, function(zero(0)), 0, 0)
	expectNext(t, function(zero(1)), 0)
}

func TestNextInTheGreatestFunction(t *testing.T) {
	code := slices.Repeat([]api.Ins{drop}, api.MaxCode)
	code[0], code[62], code[63] = zero(63), jump(63), zero(0)
	f := function(code...)
	expectNext(t, f, 0, 1, 63)
	expectNext(t, f, 1, 2)
	expectNext(t, f, 61, 62)
	expectNext(t, f, 62, 63)
	expectNext(t, f, 63, 0)
	expectNoNext(t, f, 64)
}

func TestNextRefusesPc(t *testing.T) {
	for _, f := range []api.Func{function(ret), function(zero(1), jump(0), ret), function(drop, drop)} {
		n := len(f.Code)
		for _, pc := range []int{math.MinInt, -modulus, -n, -2, -1, n, n + 1, 63, 64, 65, 256, modulus, modulus + 1, math.MaxInt} {
			expectNoNext(t, f, pc)
		}
	}
}

func TestLeaders(t *testing.T) {
	expectLeaders(t, function(drop), 0)
	expectLeaders(t, function(ret), 0)
	expectLeaders(t, function(drop, drop, drop), 0)
	expectLeaders(t, function(drop, ret, drop, drop), 0, 2)
	expectLeaders(t, function(drop, jump(3), drop, drop, drop), 0, 2, 3)
	expectLeaders(t, function(drop, drop, drop, jump(1), drop), 0, 1, 4)
	expectLeaders(t, function(drop, zero(3), drop, drop, drop), 0, 2, 3)
	expectLeaders(t, function(drop, drop, drop, zero(1), drop), 0, 1, 4)
	expectLeaders(t, function(drop, drop, zero(2), drop, drop), 0, 2, 3)
}

// TestLeadersBeyondTheEnd has an A, or what is right behind, where no pc is.
func TestLeadersBeyondTheEnd(t *testing.T) {
	for _, a := range []int{3, 4, 63} {
		expectLeaders(t, function(jump(a), drop, drop), 0, 1)
		expectLeaders(t, function(drop, zero(a), drop), 0, 2)
		expectLeaders(t, function(drop, drop, jump(a)), 0)
		expectLeaders(t, function(drop, drop, zero(a)), 0)
	}
	expectLeaders(t, function(drop, drop, ret), 0)
	expectLeaders(t, function(drop, drop, jump(1)), 0, 1)
	expectLeaders(t, function(drop, drop, zero(2)), 0, 2)
	expectLeaders(t, function(jump(63)), 0)
}

// TestLeadersThatNothingLeadsTo holds that Leaders asks not what is reached.
func TestLeadersThatNothingLeadsTo(t *testing.T) {
	expectLeaders(t, function(ret, drop, jump(4), drop, drop, drop), 0, 1, 3, 4)
	expectLeaders(t, function(ret, ret, ret), 0, 1, 2)
}

// TestLeadersOfStraightInstructions holds that no other kind's A is a pc.
func TestLeadersOfStraightInstructions(t *testing.T) {
	for _, i := range straight {
		expectLeaders(t, function(i, drop, drop, drop), 0)
		expectLeaders(t, function(drop, i, drop, drop), 0)
	}
}

func TestReached(t *testing.T) {
	expectReached(t, function(drop), 0)
	expectReached(t, function(ret), 0)
	expectReached(t, function(drop, drop, drop), 0, 1, 2)
	expectReached(t, function(drop, ret, drop, drop), 0, 1)
	expectReached(t, function(jump(2), drop, drop, ret), 0, 2, 3)
}

func TestReachedOverLoops(t *testing.T) {
	expectReached(t, function(jump(0), drop), 0)
	expectReached(t, function(zero(0)), 0)
	expectReached(t, function(drop, zero(4), drop, jump(0), ret, drop), 0, 1, 2, 3, 4)
	expectReached(t, function(jump(3), ret, drop, drop, zero(2), jump(1)), 0, 1, 2, 3, 4, 5)
	expectReached(t, function(drop, jump(1), drop, jump(2)), 0, 1)
}

func TestReachedBothWays(t *testing.T) {
	expectReached(t, function(zero(3), drop, ret, drop, ret), 0, 1, 2, 3, 4)
	expectReached(t, function(zero(3), ret, drop, ret, drop), 0, 1, 3)
	expectReached(t, function(zero(1), ret, drop), 0, 1)
	expectReached(t, function(zero(9), ret, drop), 0, 1)
	expectReached(t, function(drop, jump(3), drop, zero(6), ret, drop, zero(2)), 0, 1, 2, 3, 4, 6)
}

// TestReachedIsNotLed has code that is jumped to by what nothing leads to.
func TestReachedIsNotLed(t *testing.T) {
	expectReached(t, function(ret, jump(3), zero(0), jump(2)), 0)
	expectReached(t, function(jump(4), drop, drop, jump(1)), 0)
	expectReached(t, function(jump(63), drop), 0)
}

func TestReachedInTheGreatestFunctions(t *testing.T) {
	all := make([]int, api.MaxCode)
	back := make([]api.Ins, api.MaxCode)
	for pc := range all {
		all[pc] = pc
		back[pc] = jump(max(pc-1, 0))
	}
	expectReached(t, function(slices.Repeat([]api.Ins{drop}, 64)...), all...)
	expectReached(t, function(slices.Repeat([]api.Ins{zero(0)}, 64)...), all...)
	expectReached(t, function(slices.Repeat([]api.Ins{zero(63)}, 64)...), all...)
	back[0] = jump(63)
	expectReached(t, function(back...), all...)
	back[30] = ret
	expectReached(t, function(back...), append([]int{0}, all[30:]...)...)
}

// TestAllSmallFunctions goes through all functions of few instructions of those
// that lead in different ways, and holds each answer against one that is worked
// out another way.
func TestAllSmallFunctions(t *testing.T) {
	var extend func(code []api.Ins, more int)
	extend = func(code []api.Ins, more int) {
		if len(code) > 0 {
			expectAsToldByAll(t, function(code...))
		}
		if more == 0 {
			return
		}
		for _, i := range []api.Ins{drop, ret, {Kind: api.InsLoad, A: 1}, {Kind: api.InsCall, A: 3}} {
			extend(append(slices.Clone(code), i), more-1)
		}
		for a := range 6 {
			extend(append(slices.Clone(code), jump(a)), more-1)
			extend(append(slices.Clone(code), zero(a)), more-1)
		}
	}
	extend(nil, 4)
}

// TestFunctionsThatMayNotBe breaks one thing at a time of one that may be.
func TestFunctionsThatMayNotBe(t *testing.T) {
	expectForm(t, api.Func{}, 0)
	expectForm(t, api.Func{Args: 1, Locals: 2, Code: []api.Ins{}}, 0)
	expectForm(t, function(slices.Repeat([]api.Ins{drop}, 65)...), 0, 63, 64)
	expectForm(t, function(slices.Repeat([]api.Ins{drop}, 256)...), 0, 255)
	expectForm(t, function(slices.Repeat([]api.Ins{drop}, 257)...), 0, 256)
	for at := range 5 {
		for _, wrong := range wrongIns {
			f := function(drop, zero(4), ret, ret, jump(0))
			f.Code[at] = wrong
			expectForm(t, f, -1, 0, 1, 2, 3, 4, 5)
		}
	}
}

// TestArgsAndLocalsAreNotAsked holds that ErrFlowForm tells of code alone.
func TestArgsAndLocalsAreNotAsked(t *testing.T) {
	for _, n := range []int{math.MinInt, -1, 0, 5, 9, math.MaxInt} {
		f := function(zero(2), ret, ret)
		f.Args, f.Locals = n, -n
		expectNext(t, f, 0, 1, 2)
		expectLeaders(t, f, 0, 1, 2)
		expectReached(t, f, 0, 1, 2)
	}
}

func TestNothingHandedInIsChanged(t *testing.T) {
	code := []api.Ins{drop, zero(4), drop, jump(0), ret, jump(1), drop, {Kind: 99, A: 98}, {Kind: 97, A: 96}}
	want := slices.Clone(code)
	f := api.Func{Args: 1, Locals: 2, Code: code[:7]}
	for pc := -1; pc <= len(f.Code); pc++ {
		flow.Next(f, pc)
	}
	flow.Leaders(f)
	flow.Reached(f)
	if !slices.Equal(code, want) {
		t.Errorf("R4: the code, or its spare room, was changed: %v", code)
	}
}

func TestAnswersShareNothing(t *testing.T) {
	f := function(drop, zero(0), ret, jump(2))
	pcs, _ := flow.Next(f, 1)
	leaders, _ := flow.Leaders(f)
	reached, _ := flow.Reached(f)
	again, _ := flow.Next(f, 1)
	leadersAgain, _ := flow.Leaders(f)
	reachedAgain, _ := flow.Reached(f)
	spoil(pcs, 77)
	spoil(leaders, true)
	spoil(reached, true)
	if !slices.Equal(again, []int{2, 0}) || !slices.Equal(leadersAgain, set(4, 0, 2, 3)) || !slices.Equal(reachedAgain, set(4, 0, 1, 2)) {
		t.Errorf("R4: two answers share memory: %v, %v, %v", again, leadersAgain, reachedAgain)
	}
	expectNext(t, f, 1, 2, 0)
	expectLeaders(t, f, 0, 2, 3)
	expectReached(t, f, 0, 1, 2)
	if !slices.Equal(f.Code, []api.Ins{drop, zero(0), ret, jump(2)}) {
		t.Errorf("R4: an answer shares memory with the code: %v", f.Code)
	}
}

func TestSeveralGoroutines(t *testing.T) {
	var all sync.WaitGroup
	f := function(drop, zero(4), drop, jump(0), ret, drop)
	for range 8 {
		all.Go(func() {
			for range 100 {
				expectAsToldByAll(t, f)
			}
		})
	}
	all.Wait()
}

var (
	drop = api.Ins{Kind: api.InsDrop}
	ret  = api.Ins{Kind: api.InsRet}
)

func jump(a int) api.Ins { return api.Ins{Kind: api.InsJump, A: a} }

func zero(a int) api.Ins { return api.Ins{Kind: api.InsZero, A: a} }

func function(code ...api.Ins) api.Func { return api.Func{Code: code} }

// set is a list of n, with those that are named true.
func set(n int, pcs ...int) []bool {
	all := make([]bool, n)
	for _, pc := range pcs {
		all[pc] = true
	}
	return all
}

// spoil writes over a list, its spare room too.
func spoil[T any](list []T, x T) {
	list = list[:cap(list)]
	for k := range list {
		list[k] = x
	}
}

// expectAsToldByAll asks of each pair of pcs whether the one leads to the other,
// and closes that over ways of any length.
func expectAsToldByAll(t *testing.T, f api.Func) {
	t.Helper()
	n := len(f.Code)
	var leads [8][8]bool
	var leaders, reached []int
	for to := range n {
		leader := to == 0
		for from, i := range f.Code {
			branch := i.Kind == 12 || i.Kind == 13
			behind := to == from+1
			leads[from][to] = behind && i.Kind != 12 && i.Kind != 16 || branch && i.A == to
			leader = leader || behind && (branch || i.Kind == 16) || branch && i.A == to
		}
		if leader {
			leaders = append(leaders, to)
		}
	}
	for from := range n {
		var pcs []int
		for _, to := range []int{from + 1, f.Code[from].A} {
			if to < n && leads[from][to] && !slices.Contains(pcs, to) {
				pcs = append(pcs, to)
			}
		}
		expectNext(t, f, from, pcs...)
	}
	for over := range n {
		for from := range n {
			for to := range n {
				leads[from][to] = leads[from][to] || leads[from][over] && leads[over][to]
			}
		}
	}
	for to := range n {
		if to == 0 || leads[0][to] {
			reached = append(reached, to)
		}
	}
	expectLeaders(t, f, leaders...)
	expectReached(t, f, reached...)
}

func expectNext(t *testing.T, f api.Func, pc int, want ...int) {
	t.Helper()
	if got, err := flow.Next(f, pc); !slices.Equal(got, want) || err != api.OK {
		t.Errorf("P4.1: Next(%v, %d) is %v, %d, want %v, 0", f, pc, got, err, want)
	}
}

func expectNoNext(t *testing.T, f api.Func, pc int) {
	t.Helper()
	if got, err := flow.Next(f, pc); len(got) != 0 || err != api.ErrFlowForm {
		t.Errorf("P4.1: Next(%v, %d) is %v, %d, want none, 400", f, pc, got, err)
	}
}

func expectLeaders(t *testing.T, f api.Func, pcs ...int) {
	t.Helper()
	if got, err := flow.Leaders(f); !slices.Equal(got, set(len(f.Code), pcs...)) || err != api.OK {
		t.Errorf("P4.2: Leaders(%v) is %v, %d, want those of %v, 0", f, got, err, pcs)
	}
}

func expectReached(t *testing.T, f api.Func, pcs ...int) {
	t.Helper()
	if got, err := flow.Reached(f); !slices.Equal(got, set(len(f.Code), pcs...)) || err != api.OK {
		t.Errorf("P4.3: Reached(%v) is %v, %d, want those of %v, 0", f, got, err, pcs)
	}
}

// expectForm holds that all three refuse f, at each of pcs.
func expectForm(t *testing.T, f api.Func, pcs ...int) {
	t.Helper()
	for _, pc := range pcs {
		expectNoNext(t, f, pc)
	}
	if got, err := flow.Leaders(f); len(got) != 0 || err != api.ErrFlowForm {
		t.Errorf("P4.2: Leaders(%v) is %v, %d, want none, 400", f, got, err)
	}
	if got, err := flow.Reached(f); len(got) != 0 || err != api.ErrFlowForm {
		t.Errorf("P4.3: Reached(%v) is %v, %d, want none, 400", f, got, err)
	}
}
