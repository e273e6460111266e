package prof_test

import (
	"math"
	"slices"
	"sync"
	"testing"

	"swage/api"
	"swage/prof"
)

const (
	least    = -2147483648
	greatest = 2147483647
	modulus  = 4294967296
)

var (
	one = api.Ins{Kind: api.InsConst, A: 1}
	add = api.Ins{Kind: api.InsAdd}
	dup = api.Ins{Kind: api.InsDup}
	ret = api.Ins{Kind: api.InsRet}
)

var (
	numbers   = []int{least, least + 1, -1, 0, 1, greatest - 1, greatest}
	noNumbers = []int{math.MinInt, -modulus, least - 1, greatest + 1, modulus, modulus + 1, math.MaxInt}
	counts    = []int{0, 1, 2, api.MaxCount - 1, api.MaxCount}
	noCounts  = []int{math.MinInt, -modulus, least, -1, api.MaxCount + 1, greatest, modulus, modulus + 1, math.MaxInt}
)

func load(a int) api.Ins { return api.Ins{Kind: api.InsLoad, A: a} }

func jump(a int) api.Ins { return api.Ins{Kind: api.InsJump, A: a} }

func zero(a int) api.Ins { return api.Ins{Kind: api.InsZero, A: a} }

func call(a int) api.Ins { return api.Ins{Kind: api.InsCall, A: a} }

func function(args, locals int, code ...api.Ins) api.Func {
	return api.Func{Args: args, Locals: locals, Code: code}
}

// branching is a program of which each function has another number of
// instructions, and of arguments. Its function 0 has an InsZero at 1 and at 4,
// function 1 has none, function 2 one at 1, and one at 3 that is not reached.
func branching() api.Program {
	return api.Program{Funcs: []api.Func{
		function(2, 3, load(0), zero(3), jump(0), one, zero(6), jump(0), one, ret),
		function(0, 1, one, dup, add, ret),
		function(4, 4, one, zero(4), jump(4), zero(0), one, ret),
	}}
}

// counted is a profile of branching in which no two counts are one.
func counted() api.Prof {
	return api.Prof{Funcs: []api.FuncProf{
		{Calls: 11, Jumps: []int{12, 13, 14, 15, 16, 17, 18, 19}, Falls: []int{21, 22, 23, 24, 25, 26, 27, 28},
			Args: []api.ArgProf{{Value: 31, Same: 32, Other: 33}, {Value: -34, Same: 35, Other: 36}}},
		{Calls: 41, Jumps: []int{42, 43, 44, 45}, Falls: []int{51, 52, 53, 54}},
		{Calls: 61, Jumps: []int{62, 63, 64, 65, 66, 67}, Falls: []int{71, 72, 73, 74, 75, 76},
			Args: []api.ArgProf{{Value: 81, Same: 82, Other: 83}, {Value: 84, Same: 85, Other: 86}, {Value: 87, Same: 88, Other: 89}, {Value: 90, Same: 91, Other: 92}}},
	}}
}

// turned is counted, changed so.
func turned(change func(r *api.Prof)) api.Prof {
	r := counted()
	change(&r)
	return r
}

// faulty are programs that may not run, but part from branching in one thing
// alone, and in none that a profile asks for.
func faulty() []api.Program {
	turn := func(change func(p *api.Program)) api.Program {
		p := branching()
		change(&p)
		return p
	}
	return []api.Program{
		turn(func(p *api.Program) { p.Funcs[0].Locals = 9 }),
		turn(func(p *api.Program) { p.Funcs[2].Locals = 3 }),
		turn(func(p *api.Program) { p.Funcs[2].Code[3].A = 64 }),
		turn(func(p *api.Program) { p.Funcs[0].Code[0].A = 3 }),
		turn(func(p *api.Program) { p.Funcs[0].Code[5] = call(3) }),
		turn(func(p *api.Program) { p.Funcs[0].Code[4] = zero(8) }),
		turn(func(p *api.Program) { p.Funcs[1].Code[1] = add }),
		turn(func(p *api.Program) { p.Funcs[2].Code[5] = one }),
	}
}

func TestNewHasWhatEachFunctionAsksFor(t *testing.T) {
	want := api.Prof{Funcs: []api.FuncProf{
		{Jumps: make([]int, 8), Falls: make([]int, 8), Args: make([]api.ArgProf, 2)},
		{Jumps: make([]int, 4), Falls: make([]int, 4)},
		{Jumps: make([]int, 6), Falls: make([]int, 6), Args: make([]api.ArgProf, 4)},
	}}
	if got := newOK(t, branching()); !same(got, want) {
		t.Errorf("P9.1: New(branching) is %v, want %v", got, want)
	}
}

func TestNewOfAllSizes(t *testing.T) {
	for funcs := 1; funcs <= 8; funcs++ {
		for args := range 5 {
			for _, size := range []int{2, 3, 63, 64} {
				f := function(args, 8, append(slices.Repeat([]api.Ins{jump(size - 2)}, size-2), one, ret)...)
				p := api.Program{Funcs: slices.Repeat([]api.Func{f}, funcs)}
				want := api.Prof{Funcs: slices.Repeat([]api.FuncProf{
					{Jumps: make([]int, size), Falls: make([]int, size), Args: make([]api.ArgProf, args)},
				}, funcs)}
				if got := newOK(t, p); !same(got, want) {
					t.Errorf("P9.1: New(%v) is %v, want %v", p, got, want)
				}
			}
		}
	}
}

func TestProgramsThatAreNotVerified(t *testing.T) {
	// Without the faults, all of it may be.
	expectMay(t, branching(), counted(), true)
	for _, p := range faulty() {
		expectNoNew(t, p)
		expectNone(t, p, counted())
	}
	for _, n := range []int{0, 1, 9, 100000} {
		p, r := api.Program{Funcs: make([]api.Func, n)}, api.Prof{Funcs: make([]api.FuncProf, n)}
		expectNoNew(t, p)
		expectNone(t, p, r)
		expectNone(t, p, counted())
		// These may be, but are too many.
		p.Funcs = slices.Repeat([]api.Func{function(0, 0, jump(0))}, n)
		r.Funcs = slices.Repeat([]api.FuncProf{{Jumps: make([]int, 1), Falls: make([]int, 1)}}, n)
		if n == 1 {
			expectMay(t, p, r, true)
		} else {
			expectNoNew(t, p)
			expectNone(t, p, r)
		}
	}
}

func TestMayOfCounts(t *testing.T) {
	p := branching()
	for _, x := range counts {
		each(func(change func(r *api.Prof, x int)) {
			expectMay(t, p, turned(func(r *api.Prof) { change(r, x) }), true)
		})
	}
	for _, x := range noCounts {
		each(func(change func(r *api.Prof, x int)) {
			expectNone(t, p, turned(func(r *api.Prof) { change(r, x) }))
		})
	}
	// Nothing holds one count against another.
	expectMay(t, p, turned(func(r *api.Prof) {
		r.Funcs[0].Calls = 0
		r.Funcs[0].Args[0] = api.ArgProf{Value: 5}
		r.Funcs[0].Args[1] = api.ArgProf{Value: 5, Other: api.MaxCount}
	}), true)
}

// each tells of all counts of counted how one is set.
func each(tell func(change func(r *api.Prof, x int))) {
	for fn, f := range counted().Funcs {
		tell(func(r *api.Prof, x int) { r.Funcs[fn].Calls = x })
		for pc := range f.Jumps {
			tell(func(r *api.Prof, x int) { r.Funcs[fn].Jumps[pc] = x })
			tell(func(r *api.Prof, x int) { r.Funcs[fn].Falls[pc] = x })
		}
		for k := range f.Args {
			tell(func(r *api.Prof, x int) { r.Funcs[fn].Args[k].Same = x })
			tell(func(r *api.Prof, x int) { r.Funcs[fn].Args[k].Other = x })
		}
	}
}

func TestMayOfValues(t *testing.T) {
	p := branching()
	for fn, f := range counted().Funcs {
		for k := range f.Args {
			for _, x := range numbers {
				expectMay(t, p, turned(func(r *api.Prof) { r.Funcs[fn].Args[k].Value = x }), true)
			}
			for _, x := range noNumbers {
				expectNone(t, p, turned(func(r *api.Prof) { r.Funcs[fn].Args[k].Value = x }))
				// Not of an argument that was not seen, either.
				expectNone(t, p, turned(func(r *api.Prof) { r.Funcs[fn].Args[k] = api.ArgProf{Value: x} }))
			}
		}
	}
}

func TestMayOfHowMany(t *testing.T) {
	p := branching()
	for _, n := range []int{0, 1, 2, 3, 4, 6, 8, 9, 64, 1000} {
		expectMay(t, p, turned(func(r *api.Prof) { r.Funcs = sized(r.Funcs, n) }), n == 3)
		for fn, f := range p.Funcs {
			expectMay(t, p, turned(func(r *api.Prof) { r.Funcs[fn].Jumps = make([]int, n) }), n == len(f.Code))
			expectMay(t, p, turned(func(r *api.Prof) { r.Funcs[fn].Falls = make([]int, n) }), n == len(f.Code))
			expectMay(t, p, turned(func(r *api.Prof) { r.Funcs[fn].Args = make([]api.ArgProf, n) }), n == f.Args)
		}
	}
	expectMay(t, p, api.Prof{}, false)
	// As many together, but of other functions.
	expectMay(t, p, turned(func(r *api.Prof) { slices.Reverse(r.Funcs) }), false)
	expectMay(t, p, turned(func(r *api.Prof) { r.Funcs[0].Args, r.Funcs[1].Args = nil, r.Funcs[0].Args }), false)
	// Empty lists and nil are one.
	expectMay(t, p, turned(func(r *api.Prof) { r.Funcs[1].Args = []api.ArgProf{} }), true)
}

func TestCountsRefuseHowMany(t *testing.T) {
	p := branching()
	for _, more := range []int{-1, 1} {
		expectNone(t, p, turned(func(r *api.Prof) { r.Funcs = sized(r.Funcs, 3+more) }))
		for fn := range p.Funcs {
			expectNone(t, p, turned(func(r *api.Prof) { change(&r.Funcs[fn].Jumps, more) }))
			expectNone(t, p, turned(func(r *api.Prof) { change(&r.Funcs[fn].Falls, more) }))
			if more > 0 || p.Funcs[fn].Args > 0 {
				expectNone(t, p, turned(func(r *api.Prof) { change(&r.Funcs[fn].Args, more) }))
			}
		}
	}
	expectNone(t, p, api.Prof{})
}

// sized has the first of these, or the first one again behind them.
func sized(funcs []api.FuncProf, n int) []api.FuncProf {
	for len(funcs) < n {
		funcs = append(funcs, funcs[0])
	}
	return funcs[:n]
}

func change[T any](list *[]T, more int) {
	*list = append(*list, make([]T, 1)...)[:len(*list)+more]
}

func TestCalledCountsOfOneFunctionAlone(t *testing.T) {
	expectCalled(t, branching(), counted(), 0, []int{31, -34}, func(f *api.FuncProf) {
		f.Calls, f.Args[0].Same, f.Args[1].Same = 12, 33, 36
	})
	expectCalled(t, branching(), counted(), 0, []int{30, -34}, func(f *api.FuncProf) {
		f.Calls, f.Args[0].Other, f.Args[1].Same = 12, 34, 36
	})
	expectCalled(t, branching(), counted(), 0, []int{-34, 31}, func(f *api.FuncProf) {
		f.Calls, f.Args[0].Other, f.Args[1].Other = 12, 34, 37
	})
	expectCalled(t, branching(), counted(), 1, nil, func(f *api.FuncProf) { f.Calls = 42 })
	expectCalled(t, branching(), counted(), 1, []int{}, func(f *api.FuncProf) { f.Calls = 42 })
	expectCalled(t, branching(), counted(), 2, []int{81, 83, 87, 89}, func(f *api.FuncProf) {
		f.Calls, f.Args[0].Same, f.Args[1].Other, f.Args[2].Same, f.Args[3].Other = 62, 83, 87, 89, 93
	})
}

func TestCalledFromTheFirstCallOn(t *testing.T) {
	p := branching()
	r := newOK(t, p)
	for calls, row := range []struct {
		args        []int
		first, next api.ArgProf
	}{
		{[]int{7, 0}, api.ArgProf{Value: 7, Same: 1}, api.ArgProf{Value: 0, Same: 1}},
		{[]int{7, 1}, api.ArgProf{Value: 7, Same: 2}, api.ArgProf{Value: 0, Same: 1, Other: 1}},
		{[]int{0, 1}, api.ArgProf{Value: 7, Same: 2, Other: 1}, api.ArgProf{Value: 0, Same: 1, Other: 2}},
		{[]int{7, 0}, api.ArgProf{Value: 7, Same: 3, Other: 1}, api.ArgProf{Value: 0, Same: 2, Other: 2}},
		{[]int{least, greatest}, api.ArgProf{Value: 7, Same: 3, Other: 2}, api.ArgProf{Value: 0, Same: 2, Other: 3}},
	} {
		expectCalled(t, p, r, 0, row.args, func(f *api.FuncProf) {
			f.Calls, f.Args[0], f.Args[1] = calls+1, row.first, row.next
		})
		r = calledOK(t, p, r, 0, row.args)
	}
}

func TestCalledOfEachArgument(t *testing.T) {
	p := branching()
	for k := range 4 {
		for _, value := range numbers {
			for _, same := range counts {
				for _, other := range counts {
					r := counted()
					r.Funcs[2].Args[k] = api.ArgProf{Value: value, Same: same, Other: other}
					for _, x := range numbers {
						args := []int{81, 84, 87, 90}
						args[k] = x
						got := calledOK(t, p, r, 2, args).Funcs[2].Args[k]
						if want := afterCall(value, same, other, x); got != want {
							t.Fatalf("P9.2: %v, called with %d, is %v, want %v", r.Funcs[2].Args[k], x, got, want)
						}
					}
				}
			}
		}
	}
}

// afterCall is P9.2's row for one argument, case by case.
func afterCall(value, same, other, x int) api.ArgProf {
	switch {
	case same == 0 && other == 0:
		return api.ArgProf{Value: x, Same: 1}
	case x == value:
		return api.ArgProf{Value: value, Same: min(same+1, api.MaxCount), Other: other}
	}
	return api.ArgProf{Value: value, Same: same, Other: min(other+1, api.MaxCount)}
}

func TestCalledWithOthersAlone(t *testing.T) {
	// A Value that was never seen stays what the others are held against.
	r := turned(func(r *api.Prof) {
		r.Funcs[0].Args[0] = api.ArgProf{Value: 5, Other: 3}
		r.Funcs[0].Args[1] = api.ArgProf{Value: 5, Other: 3}
	})
	expectCalled(t, branching(), r, 0, []int{5, 6}, func(f *api.FuncProf) {
		f.Calls, f.Args[0], f.Args[1] = 12, api.ArgProf{Value: 5, Same: 1, Other: 3}, api.ArgProf{Value: 5, Other: 4}
	})
}

func TestCalledAtTheGreatestCount(t *testing.T) {
	full := turned(func(r *api.Prof) {
		r.Funcs[0].Calls = api.MaxCount
		r.Funcs[0].Args[0].Same = api.MaxCount
		r.Funcs[0].Args[1].Other = api.MaxCount
	})
	expectCalled(t, branching(), full, 0, []int{31, 31}, func(*api.FuncProf) {})
	expectCalled(t, branching(), full, 0, []int{-34, -34}, func(f *api.FuncProf) {
		f.Args[0].Other, f.Args[1].Same = 34, 36
	})
	// One below it, it is come to.
	near := turned(func(r *api.Prof) {
		r.Funcs[0].Calls = api.MaxCount - 1
		r.Funcs[0].Args[0].Same = api.MaxCount - 1
		r.Funcs[0].Args[1].Other = api.MaxCount - 1
	})
	expectCalled(t, branching(), near, 0, []int{31, 31}, func(f *api.FuncProf) {
		f.Calls, f.Args[0].Same, f.Args[1].Other = api.MaxCount, api.MaxCount, api.MaxCount
	})
	// What is full keeps nothing else from being counted.
	expectCalled(t, branching(), turned(func(r *api.Prof) { r.Funcs[0].Calls = api.MaxCount }), 0, []int{31, 31}, func(f *api.FuncProf) {
		f.Args[0].Same, f.Args[1].Other = 33, 37
	})
	none := turned(func(r *api.Prof) { r.Funcs[1].Calls = api.MaxCount })
	expectCalled(t, branching(), none, 1, nil, func(*api.FuncProf) {})
}

func TestCalledRefusesFunctions(t *testing.T) {
	for _, fn := range []int{math.MinInt, -modulus, -3, -1, 3, 4, 8, 64, modulus, modulus + 1, math.MaxInt} {
		expectNotCalled(t, branching(), counted(), fn, nil)
		expectNotCalled(t, branching(), counted(), fn, []int{1, 2})
		expectNotCalled(t, branching(), counted(), fn, []int{1, 2, 3, 4})
	}
}

func TestCalledRefusesArguments(t *testing.T) {
	p := branching()
	for fn, f := range p.Funcs {
		for _, n := range []int{0, 1, 2, 3, 4, 5, 8, 100000} {
			if n != f.Args {
				expectNotCalled(t, p, counted(), fn, make([]int, n))
			}
		}
		for k := range f.Args {
			for _, x := range noNumbers {
				args := make([]int, f.Args)
				args[k] = x
				expectNotCalled(t, p, counted(), fn, args)
			}
		}
	}
}

func TestBranchedCountsOnePlaceAlone(t *testing.T) {
	p := branching()
	expectBranched(t, p, counted(), 0, 1, true, func(f *api.FuncProf) { f.Jumps[1] = 14 })
	expectBranched(t, p, counted(), 0, 1, false, func(f *api.FuncProf) { f.Falls[1] = 23 })
	expectBranched(t, p, counted(), 0, 4, true, func(f *api.FuncProf) { f.Jumps[4] = 17 })
	expectBranched(t, p, counted(), 0, 4, false, func(f *api.FuncProf) { f.Falls[4] = 26 })
	expectBranched(t, p, counted(), 2, 1, true, func(f *api.FuncProf) { f.Jumps[1] = 64 })
	expectBranched(t, p, counted(), 2, 1, false, func(f *api.FuncProf) { f.Falls[1] = 73 })
	// An InsZero that is not reached is one too.
	expectBranched(t, p, counted(), 2, 3, true, func(f *api.FuncProf) { f.Jumps[3] = 66 })
	expectBranched(t, p, counted(), 2, 3, false, func(f *api.FuncProf) { f.Falls[3] = 75 })
}

func TestBranchedFromTheFirstTimeOn(t *testing.T) {
	p := branching()
	r := newOK(t, p)
	jumped, fell := 0, 0
	for _, jumps := range []bool{true, false, false, true, true, false, true, true} {
		if jumps {
			jumped++
		} else {
			fell++
		}
		expectBranched(t, p, r, 0, 4, jumps, func(f *api.FuncProf) { f.Jumps[4], f.Falls[4] = jumped, fell })
		r = branchedOK(t, p, r, 0, 4, jumps)
	}
}

func TestBranchedOfEachCount(t *testing.T) {
	p := branching()
	for _, jumped := range counts {
		for _, fell := range counts {
			r := turned(func(r *api.Prof) { r.Funcs[2].Jumps[1], r.Funcs[2].Falls[1] = jumped, fell })
			expectBranched(t, p, r, 2, 1, true, func(f *api.FuncProf) { f.Jumps[1] = min(jumped+1, api.MaxCount) })
			expectBranched(t, p, r, 2, 1, false, func(f *api.FuncProf) { f.Falls[1] = min(fell+1, api.MaxCount) })
		}
	}
}

func TestBranchedInTheGreatestFunction(t *testing.T) {
	// Each other instruction is an InsZero, up to the last one that may be.
	f := function(0, 0, append(slices.Repeat([]api.Ins{one, zero(0)}, 31), one, ret)...)
	p := api.Program{Funcs: slices.Repeat([]api.Func{f}, 8)}
	r := newOK(t, p)
	for _, fn := range []int{0, 7} {
		for pc := range 64 {
			if pc%2 == 1 && pc < 63 {
				expectBranched(t, p, r, fn, pc, true, func(f *api.FuncProf) { f.Jumps[pc] = 1 })
				expectBranched(t, p, r, fn, pc, false, func(f *api.FuncProf) { f.Falls[pc] = 1 })
			} else {
				expectNotBranched(t, p, r, fn, pc)
			}
		}
	}
}

func TestBranchedRefusesPlaces(t *testing.T) {
	p := branching()
	for _, fn := range []int{math.MinInt, -modulus, -3, -1, 3, 4, 8, 64, modulus, modulus + 2, math.MaxInt} {
		for pc := range 8 {
			expectNotBranched(t, p, counted(), fn, pc)
		}
	}
	for fn, f := range p.Funcs {
		for _, pc := range []int{math.MinInt, -modulus + 1, -4, -1, len(f.Code), len(f.Code) + 1, 64, modulus + 1, math.MaxInt} {
			expectNotBranched(t, p, counted(), fn, pc)
		}
		for pc, i := range f.Code {
			if i.Kind != api.InsZero {
				expectNotBranched(t, p, counted(), fn, pc)
			}
		}
	}
}

func TestSeveralGoroutines(t *testing.T) {
	var all sync.WaitGroup
	p, r, args := branching(), counted(), []int{31, 5}
	for range 8 {
		all.Go(func() {
			for range 100 {
				called, _ := prof.Called(p, r, 0, args)
				branched, _ := prof.Branched(p, r, 0, 1, true)
				fresh, _ := prof.New(p)
				if !prof.May(p, r) || called.Funcs[0].Calls != 12 || branched.Funcs[0].Jumps[1] != 14 || fresh.Funcs[0].Calls != 0 {
					t.Error("what is answered hangs on what else runs")
					return
				}
			}
		})
	}
	all.Wait()
}
