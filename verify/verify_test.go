package verify_test

import (
	"math"
	"slices"
	"sync"
	"testing"

	"swage/api"
	"swage/verify"
)

const modulus = 4294967296

var (
	add  = api.Ins{Kind: api.InsAdd}
	dup  = api.Ins{Kind: api.InsDup}
	drop = api.Ins{Kind: api.InsDrop}
	show = api.Ins{Kind: api.InsPrint}
	ret  = api.Ins{Kind: api.InsRet}
	one  = api.Ins{Kind: api.InsConst, A: 1}
)

func load(a int) api.Ins { return api.Ins{Kind: api.InsLoad, A: a} }

func store(a int) api.Ins { return api.Ins{Kind: api.InsStore, A: a} }

func jump(a int) api.Ins { return api.Ins{Kind: api.InsJump, A: a} }

func zero(a int) api.Ins { return api.Ins{Kind: api.InsZero, A: a} }

func call(a int) api.Ins { return api.Ins{Kind: api.InsCall, A: a} }

func many(n int, i api.Ins) []api.Ins { return slices.Repeat([]api.Ins{i}, n) }

func function(args, locals int, code ...api.Ins) api.Func {
	return api.Func{Args: args, Locals: locals, Code: code}
}

// around is a program of the code, with two locals, and of five functions
// behind it: number k + 1 takes k arguments.
func around(code ...api.Ins) api.Program {
	p := api.Program{Funcs: []api.Func{function(0, 2, code...)}}
	for args := range 5 {
		p.Funcs = append(p.Funcs, function(args, args, one, ret))
	}
	return p
}

func TestHeightsOfStraightCode(t *testing.T) {
	expectHeights(t, around(one, ret), 0, 0, 1)
	expectHeights(t, around(load(1), store(0), one, one, add, dup, show, ret), 0, 0, 1, 0, 1, 2, 1, 2, 1)
	expectHeights(t, around(one, one, one, ret), 0, 0, 1, 2, 3)
	expectHeights(t, around(one, one, drop, ret), 0, 0, 1, 2, 1)
}

func TestHeightsOfOperations(t *testing.T) {
	for kind := api.InsAdd; kind <= api.InsLt; kind++ {
		i := api.Ins{Kind: kind}
		expectHeights(t, around(one, one, one, i, i, ret), 0, 0, 1, 2, 3, 2, 1)
		expectStack(t, around(one, i, ret), 1)
	}
}

func TestHeightsOfLoops(t *testing.T) {
	expectHeights(t, around(jump(0)), 0, 0)
	expectHeights(t, around(load(0), zero(6), load(0), one, store(0), jump(7), jump(0), drop, one, ret), 0,
		0, 1, 0, 1, 2, 1, 0, 1, 0, 1)
	expectHeights(t, around(load(0), zero(7), load(0), one, add, store(0), jump(0), one, ret), 0,
		0, 1, 0, 1, 2, 1, 0, 0, 1)
	expectHeights(t, around(one, one, zero(1), ret), 0, 0, 1, 2, 1)
}

func TestHeightsOfZerosBothWays(t *testing.T) {
	expectHeights(t, around(load(0), zero(4), one, jump(5), one, ret), 0, 0, 1, 0, 1, 0, 1)
	expectHeights(t, around(one, dup, zero(4), ret, one, add, ret), 0, 0, 1, 2, 1, 1, 2, 1)
	expectHeights(t, around(one, one, zero(3), ret), 0, 0, 1, 2, 1)
	expectHeights(t, around(one, zero(3), jump(0), one, ret), 0, 0, 1, 0, 0, 1)
}

func TestHeightsOfCalls(t *testing.T) {
	expectHeights(t, around(call(1), ret), 0, 0, 1)
	expectHeights(t, around(one, call(1), ret), 0, 0, 1, 2)
	expectHeights(t, around(one, call(2), ret), 0, 0, 1, 1)
	expectHeights(t, around(one, one, one, call(3), ret), 0, 0, 1, 2, 3, 2)
	expectHeights(t, around(one, one, one, one, call(5), ret), 0, 0, 1, 2, 3, 4, 1)
	expectHeights(t, around(call(0), ret), 0, 0, 1)
	for args := range 5 {
		for height := range 9 {
			p := around(append(many(height, one), call(args+1), ret)...)
			if height < args || height-args+1 > 8 {
				expectStack(t, p, height)
			} else {
				expectHeights(t, p, 0, append(upTo(height), height-args+1)...)
			}
		}
	}
}

func TestHeightsOfWhatNothingLeadsTo(t *testing.T) {
	expectHeights(t, around(one, ret, drop, drop), 0, 0, 1, -1, -1)
	expectHeights(t, around(jump(3), one, drop, one, ret), 0, 0, -1, -1, 0, 1)
	expectHeights(t, around(one, jump(4), jump(1), zero(0), ret, one), 0, 0, 1, -1, -1, 1, -1)
	expectHeights(t, around(jump(0), ret), 0, 0, -1)
}

// TestHeightsOfEachFunction asks for each one of a program, not only the first.
func TestHeightsOfEachFunction(t *testing.T) {
	p := api.Program{Funcs: []api.Func{
		function(0, 0, one, call(2), ret),
		function(4, 8, load(7), load(3), call(3), ret),
		function(1, 1, load(0), show, one, one, ret),
		function(2, 2, jump(0)),
	}}
	expectHeights(t, p, 0, 0, 1, 1)
	expectHeights(t, p, 1, 0, 1, 2, 1)
	expectHeights(t, p, 2, 0, 1, 0, 1, 2)
	expectHeights(t, p, 3, 0)
	expectProgram(t, p, api.OK)
}

func TestTheGreatestProgram(t *testing.T) {
	var code []api.Ins
	var want []int
	for range 31 {
		code = append(code, load(7), drop)
		want = append(want, 0, 1)
	}
	code = append(code, call(7), ret)
	want = append(want, 0, 1)
	code[61] = zero(0)
	p := api.Program{Funcs: slices.Repeat([]api.Func{function(0, 8, code...)}, 8)}
	for fn := range 8 {
		expectHeights(t, p, fn, want...)
	}
	expectProgram(t, p, api.OK)
}

func TestFormOfPrograms(t *testing.T) {
	expectForm(t, api.Program{}, 0)
	expectForm(t, api.Program{Funcs: []api.Func{}}, 0)
	f := function(0, 0, one, ret)
	expectForm(t, api.Program{Funcs: slices.Repeat([]api.Func{f}, 9)}, 0, 8)
	wrong := []api.Func{
		function(-1, 0, one, ret), function(5, 8, one, ret), function(2, 1, one, ret), function(0, 9, one, ret),
		function(math.MinInt, 0, one, ret), function(0, math.MaxInt, one, ret),
		function(0, 0), function(0, 0, append(many(64, jump(0)), ret)...),
		function(0, 0, one, ret, api.Ins{Kind: 17}), function(0, 0, one, ret, api.Ins{Kind: -1}),
		function(0, 0, one, ret, api.Ins{Kind: modulus + api.InsRet}), function(0, 0, one, ret, api.Ins{Kind: api.InsRet, A: 1}),
		function(0, 0, one, ret, jump(64)), function(0, 0, one, ret, jump(-1)), function(0, 0, one, ret, call(8)),
		function(0, 0, one, ret, load(8)), function(0, 0, one, ret, api.Ins{A: 2147483648}),
	}
	for _, bad := range wrong {
		// A program's form is asked as a whole, whatever function is asked for.
		expectForm(t, api.Program{Funcs: []api.Func{bad}}, 0)
		expectForm(t, api.Program{Funcs: []api.Func{f, bad}}, 0, 1)
		expectForm(t, api.Program{Funcs: []api.Func{bad, f, f}}, 0, 1, 2)
	}
}

func TestFormOfNumbers(t *testing.T) {
	three := api.Program{Funcs: slices.Repeat([]api.Func{function(0, 0, one, ret)}, 3)}
	for _, fn := range []int{math.MinInt, -modulus, -3, -2, -1, 3, 4, 7, 8, 256, modulus, modulus + 1, math.MaxInt} {
		expectFault(t, three, fn, 0, api.ErrVerifyForm)
	}
	expectProgram(t, three, api.OK)
}

func TestRangeOfEachKind(t *testing.T) {
	for locals := range 9 {
		for a := range 8 {
			loads := api.Program{Funcs: []api.Func{function(0, locals, load(a), ret)}}
			stores := api.Program{Funcs: []api.Func{function(0, locals, one, store(a), one, ret)}}
			if a < locals {
				expectHeights(t, loads, 0, 0, 1)
				expectHeights(t, stores, 0, 0, 1, 0, 1)
			} else {
				expectFault(t, loads, 0, 0, api.ErrVerifyRange)
				expectFault(t, stores, 0, 1, api.ErrVerifyRange)
			}
		}
	}
	for a := range 64 {
		jumps := around(one, jump(a), ret)
		zeros := around(one, zero(a), one, ret)
		switch {
		case a > 3:
			expectFault(t, zeros, 0, 1, api.ErrVerifyRange)
			fallthrough
		case a == 3:
			expectFault(t, jumps, 0, 1, api.ErrVerifyRange)
		case a == 2:
			expectHeights(t, jumps, 0, 0, 1, 1)
			expectHeights(t, zeros, 0, 0, 1, 0, 1)
		}
	}
	for funcs := 1; funcs <= 8; funcs++ {
		for a := range 8 {
			p := api.Program{Funcs: slices.Repeat([]api.Func{function(0, 0, call(a), ret)}, funcs)}
			if a < funcs {
				expectHeights(t, p, 0, 0, 1)
			} else {
				expectFault(t, p, funcs-1, 0, api.ErrVerifyRange)
			}
		}
	}
}

// TestRangeAsksTheFunctionsOwnBounds has functions beside it with more of all.
func TestRangeAsksTheFunctionsOwnBounds(t *testing.T) {
	greater := function(4, 8, append(many(10, jump(10)), one, ret)...)
	for _, i := range []api.Ins{load(2), store(2), jump(4), zero(4)} {
		p := api.Program{Funcs: []api.Func{greater, function(1, 2, one, i, one, ret), greater}}
		expectFault(t, p, 1, 1, api.ErrVerifyRange)
	}
}

func TestRangeOfWhatIsNotReached(t *testing.T) {
	for _, i := range []api.Ins{load(2), store(2), jump(6), zero(6), call(6)} {
		expectHeights(t, around(one, ret, i, ret), 0, 0, 1, -1, -1)
		expectHeights(t, around(one, ret, i), 0, 0, 1, -1)
		expectHeights(t, around(jump(2), i, one, ret), 0, 0, -1, 0, 1)
		expectFault(t, around(one, i, one, i, one, ret), 0, 1, api.ErrVerifyRange)
	}
}

// TestRangeAtTheLeast has one that is come to sooner behind one that is less.
func TestRangeAtTheLeast(t *testing.T) {
	expectFault(t, around(jump(3), load(5), ret, store(6), jump(1)), 0, 1, api.ErrVerifyRange)
	expectFault(t, around(jump(3), load(1), ret, load(6), jump(1)), 0, 3, api.ErrVerifyRange)
	expectFault(t, around(jump(2), load(5), load(6), call(7), one, ret), 0, 2, api.ErrVerifyRange)
	expectFault(t, around(one, zero(4), call(6), jump(9), store(3), jump(0)), 0, 2, api.ErrVerifyRange)
}

func TestEndOfEachKind(t *testing.T) {
	for kind := range api.InsRet + 1 {
		i := api.Ins{Kind: kind}
		if kind == api.InsJump || kind == api.InsRet {
			continue
		}
		expectFault(t, around(one, one, i), 0, 2, api.ErrVerifyEnd)
		expectFault(t, around(i), 0, 0, api.ErrVerifyEnd)
		expectHeights(t, around(one, ret, i), 0, 0, 1, -1)
		expectHeights(t, around(jump(0), i), 0, 0, -1)
	}
	expectHeights(t, around(one, drop, jump(0)), 0, 0, 1, 0)
	expectHeights(t, around(one, one, ret), 0, 0, 1, 2)
}

func TestEndIsTheLastOne(t *testing.T) {
	expectFault(t, around(jump(2), ret, one), 0, 2, api.ErrVerifyEnd)
	expectFault(t, around(one, zero(4), one, ret, one), 0, 4, api.ErrVerifyEnd)
	expectFault(t, around(jump(63)), 0, 0, api.ErrVerifyRange)
	expectFault(t, around(append(many(63, jump(63)), zero(0))...), 0, 63, api.ErrVerifyEnd)
}

// TestStackOfTooFew has each kind with one less than it takes, and with as many.
func TestStackOfTooFew(t *testing.T) {
	takes := map[api.Ins]int{
		store(0): 1, drop: 1, show: 1, ret: 1, dup: 1,
		call(2): 1, call(3): 2, call(4): 3, call(5): 4,
	}
	for kind := api.InsAdd; kind <= api.InsLt; kind++ {
		takes[api.Ins{Kind: kind}] = 2
	}
	for i, n := range takes {
		expectStack(t, around(append(many(n-1, one), i, jump(n))...), n-1)
		expectHeightsAhead(t, around(append(many(n, one), i, jump(n+1))...), n)
	}
	expectStack(t, around(zero(1), jump(1)), 0)
	expectHeights(t, around(one, zero(2), jump(2)), 0, 0, 1, 0)
	expectStack(t, around(ret), 0)
	expectStack(t, around(one, show, show, ret), 2)
	expectStack(t, around(one, one, add, add, ret), 3)
}

func TestStackOfTooMany(t *testing.T) {
	for _, i := range []api.Ins{one, load(1), dup, call(0), call(1)} {
		expectHeights(t, around(append(many(7, one), i, ret)...), 0, append(upTo(7), 8)...)
		expectStack(t, around(append(many(8, one), i, ret)...), 8)
	}
	for _, i := range []api.Ins{add, drop, store(0), show, call(2), call(5)} {
		expectHeightsAhead(t, around(append(many(8, one), i, ret)...), 8)
	}
	// A stack may be full: only what comes behind is held against the bound.
	expectHeights(t, around(append(many(8, one), jump(9), ret)...), 0, append(upTo(8), 8)...)
}

func TestStackOfOthersThanBefore(t *testing.T) {
	expectStack(t, around(one, jump(0)), 1)
	expectStack(t, around(load(0), zero(3), one, load(0), ret), 2)
	expectStack(t, around(one, one, zero(0), ret), 2)
	expectStack(t, around(one, one, zero(2), ret), 2)
	expectStack(t, around(one, zero(1), one, ret), 1)
	expectStack(t, around(one, one, drop, jump(0)), 3)
}

// TestStackInTheRowOfTheQueue has several faults: the one whose pc is come to
// first is told, not the least one, and not one that is come to by going deep.
func TestStackInTheRowOfTheQueue(t *testing.T) {
	// 4 is come to ahead of 1.
	expectStack(t, around(jump(4), add, ret, ret, drop, jump(1)), 4)
	expectStack(t, around(jump(4), drop, ret, ret, one, jump(6), drop, jump(1)), 1)
	// Of an InsZero's ways the one right behind is first: 2, 4, then 3, 5.
	expectStack(t, around(one, zero(4), drop, ret, drop, ret), 2)
	expectStack(t, around(one, zero(4), one, add, drop, ret), 4)
	expectStack(t, around(one, zero(4), jump(3), drop, jump(5), drop, ret), 3)
	// The row is 2, 5, 3, 6, 4, and then 2, 5, 3, 7, 4, 8.
	expectStack(t, around(one, zero(5), one, drop, drop, jump(6), drop, ret), 6)
	expectStack(t, around(one, zero(5), one, drop, drop, jump(7), ret, jump(8), drop, ret), 4)
	expectStack(t, around(one, zero(5), one, drop, one, drop, ret), 5)
}

// TestStackAtWhatIsGoneOnFrom has 5 come to by two that differ: the second of
// them has the fault, which is neither 5 nor the first.
func TestStackAtWhatIsGoneOnFrom(t *testing.T) {
	expectStack(t, around(one, zero(4), one, jump(5), jump(5), ret), 3)
	expectStack(t, around(one, zero(4), jump(5), ret, one, ret), 4)
	expectStack(t, around(one, zero(4), one, jump(2), one, jump(4)), 3)
}

// TestTheFirstErrorIsAnswered has several of them in one function.
func TestTheFirstErrorIsAnswered(t *testing.T) {
	// Range ahead of the end and of the stack, though these are at a lesser pc.
	expectFault(t, around(drop, load(7)), 0, 1, api.ErrVerifyRange)
	expectFault(t, around(drop, drop, jump(8), ret), 0, 2, api.ErrVerifyRange)
	expectFault(t, around(one, zero(4), call(7), ret, one), 0, 2, api.ErrVerifyRange)
	expectFault(t, around(one, store(2)), 0, 1, api.ErrVerifyRange)
	expectFault(t, around(one, zero(2)), 0, 1, api.ErrVerifyRange)
	// The end ahead of the stack.
	expectFault(t, around(drop, one), 0, 1, api.ErrVerifyEnd)
	expectFault(t, around(add), 0, 0, api.ErrVerifyEnd)
	expectFault(t, around(append(many(9, one), drop)...), 0, 9, api.ErrVerifyEnd)
	// The form ahead of all.
	p := around(drop, load(7))
	p.Funcs[3].Locals = 9
	expectForm(t, p, 0, 1, 3)
	expectFault(t, around(drop, load(7)), 6, 0, api.ErrVerifyForm)
	expectFault(t, around(drop, load(7)), -1, 0, api.ErrVerifyForm)
}

func TestProgramTellsTheFirstFunctions(t *testing.T) {
	good := function(0, 0, one, ret)
	stack := function(0, 0, ret)
	end := function(0, 0, one)
	beyond := function(0, 0, jump(5))
	form := function(0, 0)
	rows := []struct {
		funcs []api.Func
		want  api.Errno
	}{
		{[]api.Func{good}, api.OK},
		{[]api.Func{good, good, good}, api.OK},
		{[]api.Func{good, stack}, api.ErrVerifyStack},
		{[]api.Func{good, end}, api.ErrVerifyEnd},
		{[]api.Func{good, beyond}, api.ErrVerifyRange},
		{[]api.Func{good, form}, api.ErrVerifyForm},
		{[]api.Func{good, stack, end, beyond}, api.ErrVerifyStack},
		{[]api.Func{good, end, beyond, stack}, api.ErrVerifyEnd},
		{[]api.Func{good, beyond, stack, end}, api.ErrVerifyRange},
		{[]api.Func{stack, good}, api.ErrVerifyStack},
		{[]api.Func{stack, beyond, form}, api.ErrVerifyForm},
		{[]api.Func{good, good, good, good, good, good, good, end}, api.ErrVerifyEnd},
		{nil, api.ErrVerifyForm},
	}
	for _, row := range rows {
		expectProgram(t, api.Program{Funcs: row.funcs}, row.want)
	}
	// Heights tells of its function alone, be the others verified or not.
	p := api.Program{Funcs: []api.Func{stack, good, beyond}}
	expectFault(t, p, 0, 0, api.ErrVerifyStack)
	expectHeights(t, p, 1, 0, 1)
	expectFault(t, p, 2, 0, api.ErrVerifyRange)
}

// TestAllSmallFunctions goes through all functions of few instructions of those
// that differ here, and holds each answer against one that is worked out by the
// words of the chapter.
func TestAllSmallFunctions(t *testing.T) {
	letters := []api.Ins{one, drop, dup, add, ret, load(1), load(2), store(2), call(1), call(3), call(6)}
	for a := range 5 {
		letters = append(letters, jump(a), zero(a))
	}
	var extend func(code []api.Ins, more int)
	extend = func(code []api.Ins, more int) {
		if len(code) > 0 {
			expectAsTold(t, around(code...), 0)
		}
		if more == 0 {
			return
		}
		for _, i := range letters {
			extend(append(slices.Clone(code), i), more-1)
		}
	}
	extend(nil, 3)
}

// TestFunctionsByChance does likewise with longer ones, most of whose reached
// A are in range, and asks that each kind of answer came often.
func TestFunctionsByChance(t *testing.T) {
	state := uint64(5)
	chance := func(n int) int {
		state = state*6364136223846793005 + 1442695040888963407
		return int(state >> 33 % uint64(n))
	}
	came := map[api.Errno]int{}
	for range 60000 {
		n := 4 + chance(9)
		code := make([]api.Ins, n)
		for pc := range code {
			switch chance(14) {
			case 0, 1, 2, 3:
				code[pc] = one
			case 4:
				code[pc] = load(chance(20) / 9)
			case 5:
				code[pc] = api.Ins{Kind: api.InsAdd + chance(7)}
			case 6:
				code[pc] = jump(chance(n))
			case 7, 8, 9:
				code[pc] = zero(chance(n))
			case 10:
				code[pc] = call(chance(19) / 3)
			case 11:
				code[pc] = dup
			case 12:
				code[pc] = []api.Ins{drop, show, store(chance(2))}[chance(3)]
			case 13:
				code[pc] = ret
			}
		}
		if chance(4) > 0 {
			code[n-1] = []api.Ins{ret, jump(chance(n))}[chance(2)]
		}
		came[expectAsTold(t, around(code...), 0)]++
	}
	for _, err := range []api.Errno{api.OK, api.ErrVerifyRange, api.ErrVerifyEnd, api.ErrVerifyStack} {
		if came[err] < 500 {
			t.Errorf("%d came %d times only", err, came[err])
		}
	}
}

func TestNothingHandedInIsChanged(t *testing.T) {
	for _, code := range [][]api.Ins{
		{load(0), zero(4), one, jump(5), one, ret}, {one, jump(0)}, {load(7), ret}, {one}, {{Kind: 17}},
	} {
		p := withSpare(around(code...))
		want := withSpare(around(code...))
		for fn := -1; fn <= len(p.Funcs); fn++ {
			verify.Heights(p, fn)
		}
		verify.Program(p)
		p.Funcs, want.Funcs = p.Funcs[:7], want.Funcs[:7]
		for fn, f := range p.Funcs {
			g := want.Funcs[fn]
			if f.Args != g.Args || f.Locals != g.Locals || !slices.Equal(f.Code[:cap(f.Code)], g.Code[:cap(g.Code)]) {
				t.Errorf("R4: function %d, or its spare room, was changed: %v", fn, f)
			}
		}
	}
}

// withSpare gives all lists of a program of six functions room beyond their end
// that is not empty.
func withSpare(p api.Program) api.Program {
	q := api.Program{Funcs: make([]api.Func, 7)}
	for k, f := range append(p.Funcs, function(3, 4, drop)) {
		code := append(slices.Clone(f.Code), api.Ins{Kind: 99, A: 98}, api.Ins{Kind: 97, A: 96})
		q.Funcs[k] = function(f.Args, f.Locals, slices.Clip(code)[:len(f.Code)]...)
	}
	q.Funcs = q.Funcs[:6]
	return q
}

func TestAnswersShareNothing(t *testing.T) {
	p := around(load(0), zero(4), one, jump(5), one, ret, drop)
	want := []int{0, 1, 0, 1, 0, 1, -1}
	first, _, _ := verify.Heights(p, 0)
	second, _, _ := verify.Heights(p, 0)
	first = first[:cap(first)]
	for k := range first {
		first[k] = 77
	}
	if !slices.Equal(second, want) {
		t.Errorf("R4: two answers share memory: %v", second)
	}
	expectHeights(t, p, 0, want...)
}

func TestSeveralGoroutines(t *testing.T) {
	var all sync.WaitGroup
	p := around(load(0), zero(4), one, jump(5), one, ret, drop)
	for range 8 {
		all.Go(func() {
			for range 100 {
				expectHeights(t, p, 0, 0, 1, 0, 1, 0, 1, -1)
				expectStack(t, around(one, jump(0)), 1)
			}
		})
	}
	all.Wait()
}

// upTo is 0, 1, and so on to n.
func upTo(n int) []int {
	list := make([]int, n+1)
	for k := range list {
		list[k] = k
	}
	return list
}

// told works out what Heights must tell of a function of a program that may be
// packed, by asking of all pcs again and again, until nothing changes.
func told(p api.Program, fn int) ([]int, int, api.Errno) {
	f := p.Funcs[fn]
	last := len(f.Code) - 1
	leads := func(from, to int) bool {
		i := f.Code[from]
		return to == from+1 && i.Kind != 12 && i.Kind != 16 || (i.Kind == 12 || i.Kind == 13) && i.A == to
	}
	reached := make([]bool, last+1)
	reached[0] = true
	for range f.Code {
		for from := range f.Code {
			for to := range f.Code {
				reached[to] = reached[to] || reached[from] && leads(from, to)
			}
		}
	}
	for pc, i := range f.Code {
		limit := map[int]int{1: f.Locals, 2: f.Locals, 12: last + 1, 13: last + 1, 14: len(p.Funcs)}
		if n, ok := limit[i.Kind]; reached[pc] && ok && i.A >= n {
			return nil, pc, 501
		}
	}
	if kind := f.Code[last].Kind; reached[last] && kind != 12 && kind != 16 {
		return nil, last, 503
	}
	return toldOfStack(p, f, leads)
}

// toldOfStack goes row by row: all that are so many instructions away from 0 at
// least, in the row in which those ahead of them lead there.
func toldOfStack(p api.Program, f api.Func, leads func(from, to int) bool) ([]int, int, api.Errno) {
	//               c  l  s  +  -  *  /  %  =  <  d  x  j  z  f  p  r
	takes := [...]int{0, 0, 1, 2, 2, 2, 2, 2, 2, 2, 1, 1, 0, 1, 0, 1, 1}
	puts := [...]int{1, 1, 0, 1, 1, 1, 1, 1, 1, 1, 2, 0, 0, 0, 1, 0, 0}
	heights := slices.Repeat([]int{-1}, len(f.Code))
	heights[0] = 0
	for row := []int{0}; len(row) > 0; {
		var following []int
		for _, pc := range row {
			i := f.Code[pc]
			taken := takes[i.Kind]
			if i.Kind == 14 {
				taken = p.Funcs[i.A].Args
			}
			height := heights[pc] - taken + puts[i.Kind]
			if heights[pc] < taken || height > 8 {
				return nil, pc, 502
			}
			for _, to := range []int{pc + 1, i.A} {
				if to < 0 || to >= len(f.Code) || !leads(pc, to) {
					continue
				}
				if heights[to] < 0 {
					heights[to] = height
					following = append(following, to)
				}
				if heights[to] != height {
					return nil, pc, 502
				}
			}
		}
		row = following
	}
	return heights, 0, 0
}

// expectAsTold takes those of around's programs, whose other functions have no fault.
func expectAsTold(t *testing.T, p api.Program, fn int) api.Errno {
	t.Helper()
	heights, pc, err := told(p, fn)
	if err == api.OK {
		expectHeights(t, p, fn, heights...)
	} else {
		expectFault(t, p, fn, pc, err)
	}
	expectProgram(t, p, err)
	return err
}

func expectHeights(t *testing.T, p api.Program, fn int, want ...int) {
	t.Helper()
	if got, pc, err := verify.Heights(p, fn); !slices.Equal(got, want) || pc != 0 || err != api.OK {
		t.Errorf("P5.1: Heights(%v, %d) is %v, %d, %d, want %v, 0, 0", p, fn, got, pc, err, want)
	}
}

// expectHeightsAhead holds that nothing fails, and how many there are at pc n:
// behind so many instructions that put one each.
func expectHeightsAhead(t *testing.T, p api.Program, n int) {
	t.Helper()
	got, pc, err := verify.Heights(p, 0)
	if err != api.OK || pc != 0 || !slices.Equal(got[:n+1], upTo(n)) {
		t.Errorf("P5.1: Heights(%v, 0) is %v, %d, %d", p, got, pc, err)
	}
}

// expectFault holds that nothing but the error and its pc is told (R2).
func expectFault(t *testing.T, p api.Program, fn int, wantPc int, want api.Errno) {
	t.Helper()
	if got, pc, err := verify.Heights(p, fn); len(got) != 0 || pc != wantPc || err != want {
		t.Errorf("P5.1: Heights(%v, %d) is %v, %d, %d, want none, %d, %d", p, fn, got, pc, err, wantPc, want)
	}
}

func expectStack(t *testing.T, p api.Program, pc int) {
	t.Helper()
	expectFault(t, p, 0, pc, api.ErrVerifyStack)
	expectProgram(t, p, api.ErrVerifyStack)
}

// expectForm holds that p is refused, whichever of fns is asked for.
func expectForm(t *testing.T, p api.Program, fns ...int) {
	t.Helper()
	for _, fn := range fns {
		expectFault(t, p, fn, 0, api.ErrVerifyForm)
	}
	expectProgram(t, p, api.ErrVerifyForm)
}

func expectProgram(t *testing.T, p api.Program, want api.Errno) {
	t.Helper()
	if err := verify.Program(p); err != want {
		t.Errorf("P5.2: Program(%v) is %d, want %d", p, err, want)
	}
}
