package eval_test

import (
	"math"
	"slices"

	"swage/api"
)

const (
	least    = -2147483648
	greatest = 2147483647
	modulus  = 4294967296
)

var (
	one  = number(1)
	add  = operate(api.InsAdd)
	sub  = operate(api.InsSub)
	less = operate(api.InsLt)
	dup  = operate(api.InsDup)
	drop = operate(api.InsDrop)
	show = operate(api.InsPrint)
	ret  = operate(api.InsRet)
)

var noNumbers = [...]int{least - 1, greatest + 1, modulus, -modulus, modulus + 1, math.MinInt, math.MaxInt}

func number(a int) api.Ins { return api.Ins{Kind: api.InsConst, A: a} }

func load(a int) api.Ins { return api.Ins{Kind: api.InsLoad, A: a} }

func store(a int) api.Ins { return api.Ins{Kind: api.InsStore, A: a} }

func operate(kind int) api.Ins { return api.Ins{Kind: kind} }

func jump(a int) api.Ins { return api.Ins{Kind: api.InsJump, A: a} }

func zero(a int) api.Ins { return api.Ins{Kind: api.InsZero, A: a} }

func call(a int) api.Ins { return api.Ins{Kind: api.InsCall, A: a} }

func function(args, locals int, code ...api.Ins) api.Func {
	return api.Func{Args: args, Locals: locals, Code: code}
}

func program(funcs ...api.Func) api.Program { return api.Program{Funcs: funcs} }

// sum prints what is below its argument, down to 0, and comes to the sum of all
// of these and it, in 13 steps for each and 4 more.
func sum() api.Program {
	return program(function(1, 2, load(0), zero(13), load(1), load(0), add, store(1),
		load(0), one, sub, store(0), load(0), show, jump(0), load(1), ret))
}

// fib calls itself: of n from 2 on it has n frames at most.
func fib() api.Program {
	return program(function(1, 1, load(0), number(2), less, zero(6), load(0), ret,
		load(0), one, sub, call(0), load(0), number(2), sub, call(0), add, ret))
}

// down calls itself until its argument is 0: of n it has n + 1 frames. Each one
// prints its argument and, in 11 steps (the last one in 6), adds it.
func down() api.Program {
	return program(function(1, 1, load(0), show, load(0), zero(11),
		load(0), load(0), one, sub, call(0), add, ret, number(0), ret))
}

// apart calls function 1 with what is in its row, which prints it and divides.
func apart() api.Program {
	return program(
		function(2, 2, load(0), load(1), call(1), show, load(1), load(0), call(1), ret),
		function(2, 3, load(1), show, load(0), load(1), operate(api.InsDiv), ret),
	)
}

// endless prints 7 and 8 in turn, and is never over by itself.
func endless() api.Program {
	return program(function(0, 0, number(7), show, number(8), show, jump(0)))
}

// row is what comes of a program with as much fuel as it costs and some more.
type row struct {
	p    api.Program
	args []int
	cost int
	want api.Result
}

func value(x int, out ...int) api.Result {
	return api.Result{Done: api.OutValue, Value: x, Out: out}
}

// rows are told by hand.
func rows() []row {
	return []row{
		{program(function(0, 0, number(7), ret)), nil, 2, value(7)},
		{program(function(0, 0, number(0), ret)), nil, 2, value(0)},
		{program(function(0, 0, number(least), ret)), []int{}, 2, value(least)},
		{program(function(4, 8, load(3), ret)), []int{1, 2, 3, greatest}, 2, value(greatest)},
		{program(function(1, 8, load(7), ret)), []int{5}, 2, value(0)},
		{program(function(2, 2, load(0), load(1), add, show, load(0), ret)), []int{greatest, 1}, 6, value(greatest, least)},
		{program(function(0, 0, jump(3), number(9), ret, number(8), jump(1)), function(0, 0, number(3), ret)), nil, 5, value(9)},
		{sum(), []int{0}, 4, value(0)},
		{sum(), []int{3}, 43, value(6, 2, 1, 0)},
		{sum(), []int{10}, 134, value(55, 9, 8, 7, 6, 5, 4, 3, 2, 1, 0)},
		{fib(), []int{-5}, 6, value(-5)},
		{fib(), []int{2}, 26, value(1)},
		{fib(), []int{7}, 20*21 - 14, value(13)},
		{fib(), []int{12}, 20*233 - 14, value(144)},
		{fib(), []int{13}, 12 * 8, api.Result{Done: api.OutDepth}},
		{down(), []int{0}, 6, value(0, 0)},
		{down(), []int{11}, 11*11 + 6, value(66, 11, 10, 9, 8, 7, 6, 5, 4, 3, 2, 1, 0)},
		{down(), []int{12}, 12 * 9, api.Result{Done: api.OutDepth, Out: []int{12, 11, 10, 9, 8, 7, 6, 5, 4, 3, 2, 1}}},
		{apart(), []int{7, -2}, 20, value(0, -2, -3, 7)},
		{apart(), []int{7, 0}, 8, api.Result{Done: api.OutZero, Out: []int{0}}},
		{apart(), []int{0, 7}, 18, api.Result{Done: api.OutZero, Out: []int{7, 0, 0}}},
		{apart(), []int{least, -1}, 20, value(0, -1, least, least)},
		{program(function(0, 0, number(3), show, one, number(0), operate(api.InsRem), ret)), nil, 5, api.Result{Done: api.OutZero, Out: []int{3}}},
		{program(function(0, 0, number(3), show, call(0), ret)), nil, 36, api.Result{Done: api.OutDepth, Out: slices.Repeat([]int{3}, 12)}},
		{program(function(0, 1, call(1), ret), function(0, 0, call(0), ret)), nil, 12, api.Result{Done: api.OutDepth}},
	}
}

// smallPrograms are all those whose first function goes on so with three of some
// instructions, whether they may run or not.
func smallPrograms() []api.Program {
	some := []api.Ins{
		number(0), number(-3), load(0), load(2), store(2), dup, drop, show, ret,
		add, sub, operate(api.InsMul), operate(api.InsDiv), operate(api.InsRem), operate(api.InsEq), less,
		jump(2), jump(5), zero(1), zero(3), zero(5), call(0), call(1),
	}
	var all []api.Program
	for _, x := range some {
		for _, y := range some {
			for _, z := range some {
				all = append(all, program(
					function(2, 3, load(0), load(1), x, y, z, ret),
					function(2, 2, load(0), load(1), sub, show, load(1), ret),
				))
			}
		}
	}
	return all
}

// faulty are programs that may not run, with a first function that takes as many
// arguments as sum's.
func faulty() []api.Program {
	turn := func(change func(f *api.Func)) api.Program {
		p := sum()
		change(&p.Funcs[0])
		return p
	}
	return []api.Program{
		{},
		{Funcs: []api.Func{}},
		{Funcs: make([]api.Func, 1)},
		{Funcs: make([]api.Func, 100000)},
		turn(func(f *api.Func) { f.Code = nil }),
		turn(func(f *api.Func) { f.Code = f.Code[:14] }),
		turn(func(f *api.Func) { f.Code = slices.Repeat(f.Code, 5) }),
		turn(func(f *api.Func) { f.Code[1].A = 14 }),
		turn(func(f *api.Func) { f.Code[4] = dup }),
		turn(func(f *api.Func) { f.Code[4] = operate(17) }),
		turn(func(f *api.Func) { f.Code[5].A = 2 }),
		turn(func(f *api.Func) { f.Code[12].A = 15 }),
		turn(func(f *api.Func) { f.Code[13] = call(1) }),
		turn(func(f *api.Func) { f.Code[7].A = greatest + 1 }),
		turn(func(f *api.Func) { f.Locals = 9 }),
		turn(func(f *api.Func) { f.Locals = 1 }),
		program(append(sum().Funcs, function(0, 0, ret))...),
		program(append(sum().Funcs, function(5, 5, one, ret))...),
		program(append(sum().Funcs, api.Func{})...),
		program(slices.Repeat(sum().Funcs, 9)...),
	}
}
