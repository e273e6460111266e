package eval_test

import (
	"math"
	"slices"
	"sync"
	"testing"

	"swage/api"
	"swage/eval"
	"swage/frame"
	"swage/verify"
)

func TestEvalTellsWhatComesOfIt(t *testing.T) {
	for _, r := range rows() {
		for _, more := range []int{0, 1, 2, 500, api.MaxFuel - r.cost} {
			expectEval(t, r.p, r.args, r.cost+more, withFuel(r.want, more))
		}
	}
}

func TestEvalOfWhatIsEndless(t *testing.T) {
	p := endless()
	for fuel, out := range [][]int{nil, nil, {7}, {7}, {7, 8}, {7, 8}, {7, 8}, {7, 8, 7}} {
		expectEval(t, p, nil, fuel, api.Result{Done: api.OutFuel, Out: out})
	}
	alone := program(function(0, 0, jump(0)))
	for _, fuel := range []int{0, 1, 77, api.MaxFuel} {
		expectEval(t, alone, nil, fuel, api.Result{Done: api.OutFuel})
	}
	all := slices.Repeat([]int{7, 8}, api.MaxFuel/5)
	expectEval(t, p, nil, api.MaxFuel, api.Result{Done: api.OutFuel, Out: all})
}

// TestEvalOfAllTheFuel takes longer than tests may, if each step looks at the
// whole program, or copies all that was printed.
func TestEvalOfAllTheFuel(t *testing.T) {
	prints := function(0, 0, append(slices.Repeat([]api.Ins{one, show}, 31), jump(0))...)
	p := program(slices.Repeat([]api.Func{prints}, api.MaxFuncs)...)
	calls := program(
		function(0, 0, call(1), drop, jump(0)),
		function(0, 8, append(slices.Repeat([]api.Ins{one}, 8), ret)...),
	)
	for range 50 {
		got, err := eval.Eval(p, nil, api.MaxFuel)
		if err != api.OK || got.Done != api.OutFuel || len(got.Out) != 49206 {
			t.Fatalf("P8.1: Eval is %d prints, done %d, %d", len(got.Out), got.Done, err)
		}
		expectEval(t, calls, nil, api.MaxFuel, api.Result{Done: api.OutFuel})
	}
}

func TestEvalRefusesPrograms(t *testing.T) {
	evalOK(t, sum(), []int{3}, 50)
	for k, p := range faulty() {
		if verify.Program(p) == api.OK {
			t.Fatalf("faulty program %d is verified", k)
		}
		for _, args := range [][]int{nil, {}, {3}, {3, 4}} {
			for _, fuel := range []int{0, 50, api.MaxFuel, api.MaxFuel + 1} {
				expectNoEval(t, p, args, fuel)
			}
		}
	}
}

func TestEvalRefusesArguments(t *testing.T) {
	for args := range api.MaxArgs + 1 {
		p := program(function(args, 6, one, ret), function(4-args, 6, one, ret))
		for n := range api.MaxArgs + 3 {
			if n == args {
				expectEval(t, p, make([]int, n), 9, withFuel(value(1), 7))
			} else {
				expectNoEval(t, p, make([]int, n), 9)
			}
		}
		expectNoEval(t, p, make([]int, 100000), 9)
		for k := range args {
			for _, x := range noNumbers {
				xs := make([]int, args)
				xs[k] = x
				expectNoEval(t, p, xs, 9)
			}
			for _, x := range []int{least, greatest} {
				xs := make([]int, args)
				xs[k] = x
				expectEval(t, p, xs, 9, withFuel(value(1), 7))
			}
		}
	}
}

func TestEvalRefusesFuel(t *testing.T) {
	for _, fuel := range []int{math.MinInt, -modulus + 9, least, -1, api.MaxFuel + 1, greatest, modulus, modulus + 9, math.MaxInt} {
		expectNoEval(t, sum(), []int{3}, fuel)
		expectNoEval(t, sum(), nil, fuel)
	}
	expectEval(t, sum(), []int{3}, 0, api.Result{Done: api.OutFuel})
	expectEval(t, sum(), []int{3}, api.MaxFuel, withFuel(value(6, 2, 1, 0), api.MaxFuel-43))
}

func TestEvalIsGoFromTheStart(t *testing.T) {
	for _, r := range rows() {
		for fuel := range r.cost + 3 {
			got := evalOK(t, r.p, r.args, fuel)
			if want := goOK(t, r.p, start(t, r.p, r.args, fuel)); !same(got, want) {
				t.Errorf("P8.1: Eval(%v, %v, %d) is %v, but Go is %v", r.p, r.args, fuel, got, want)
			}
		}
	}
}

func TestGoRefusesWhatMayNotBe(t *testing.T) {
	p := down()
	good := func() api.State { return amid(p, 3) }
	goOK(t, p, good())
	refuse := func(change func(s *api.State)) {
		t.Helper()
		s := good()
		change(&s)
		if frame.State(p, s) {
			t.Fatalf("%v may be", s)
		}
		expectNoGo(t, p, s)
	}
	expectNoGo(t, p, api.State{})
	for _, fuel := range []int{math.MinInt, -modulus, -1, api.MaxFuel - 1, api.MaxFuel, modulus, math.MaxInt} {
		refuse(func(s *api.State) { s.Fuel = fuel })
	}
	for _, x := range noNumbers {
		refuse(func(s *api.State) { s.Value = x })
		refuse(func(s *api.State) { s.Out[1] = x })
		for k := range 3 {
			refuse(func(s *api.State) { s.Frames[k].Stack[0] = x })
			refuse(func(s *api.State) { s.Frames[k].Locals[0] = x })
		}
	}
	for _, x := range []int{math.MinInt, -1, 6, 13, 64, modulus, modulus + 1, math.MaxInt} {
		for k := range 3 {
			refuse(func(s *api.State) { s.Frames[k].Fn = x })
			refuse(func(s *api.State) { s.Frames[k].Pc = x })
		}
		refuse(func(s *api.State) { s.Done = x })
	}
	refuse(func(s *api.State) { s.Value = 1 })
	refuse(func(s *api.State) { s.Frames = nil })
	refuse(func(s *api.State) { s.Frames = s.Frames[:2] })
	refuse(func(s *api.State) { s.Frames = amid(p, api.MaxDepth+1).Frames })
	refuse(func(s *api.State) { s.Out = make([]int, api.MaxFuel+1) })
	for k := range 3 {
		refuse(func(s *api.State) { s.Frames[k].Stack = nil })
		refuse(func(s *api.State) { s.Frames[k].Locals = make([]int, 2) })
	}
	for _, done := range []int{api.OutValue, api.OutZero, api.OutDepth, api.OutFuel} {
		refuse(func(s *api.State) { s.Done = done })
		refuse(func(s *api.State) { s.Done, s.Frames, s.Value = done, nil, greatest+1 })
		refuse(func(s *api.State) { s.Done, s.Frames, s.Fuel = done, nil, -1 })
		refuse(func(s *api.State) { s.Done, s.Frames, s.Fuel = done, nil, api.MaxFuel })
	}
	for _, done := range []int{api.OutZero, api.OutDepth, api.OutFuel} {
		refuse(func(s *api.State) { s.Done, s.Frames, s.Value = done, nil, 1 })
	}
}

func TestGoRefusesProgramsThatAreNotVerified(t *testing.T) {
	s := start(t, sum(), []int{3}, 50)
	goOK(t, sum(), s)
	for _, p := range faulty() {
		expectNoGo(t, p, s)
		for done := api.OutNone; done <= api.OutFuel; done++ {
			expectNoGo(t, p, api.State{Done: done})
		}
	}
}

// amid is a state of down with so many frames: the last one is at a 5 that it
// comes back with, the others wait with 1, 2 and so on to add.
func amid(p api.Program, frames int) api.State {
	s := api.State{Fuel: 40, Out: []int{least, 8}}
	for k := range frames {
		s.Frames = append(s.Frames, api.Frame{Pc: 9, Locals: []int{-1}, Stack: []int{k + 1}})
	}
	s.Frames[frames-1] = api.Frame{Pc: len(p.Funcs[0].Code) - 1, Locals: []int{-1}, Stack: []int{5}}
	return s
}

func TestGoOfStatesAmidCalls(t *testing.T) {
	p := down()
	for frames := 1; frames <= api.MaxDepth; frames++ {
		s := amid(p, frames)
		cost := 2*frames - 1
		want := value(5+frames*(frames-1)/2, least, 8)
		expectGo(t, p, s, withFuel(want, 40-cost))
		s.Fuel = cost
		expectGo(t, p, s, want)
		s.Fuel = cost - 1
		expectGo(t, p, s, api.Result{Done: api.OutFuel, Out: []int{least, 8}})
		s.Fuel = 0
		expectGo(t, p, s, api.Result{Done: api.OutFuel, Out: []int{least, 8}})
	}
	// One of apart waits for a call that ends it.
	s := api.State{Fuel: 40, Out: []int{6}, Frames: []api.Frame{
		{Pc: 3, Locals: []int{7, 0}},
		{Fn: 1, Pc: 0, Locals: []int{7, 0, 0}},
	}}
	expectGo(t, apart(), s, api.Result{Done: api.OutZero, Fuel: 35, Out: []int{6, 0}})
	s.Frames[1].Locals = []int{7, 2, 0}
	s.Frames[0].Locals = []int{1, 9}
	expectGo(t, apart(), s, api.Result{Done: api.OutValue, Value: 9, Fuel: 23, Out: []int{6, 2, 3, 1}})
	// With all frames but one, a call more may be, but not two.
	s = amid(p, api.MaxDepth-1)
	s.Frames[api.MaxDepth-2] = api.Frame{Locals: []int{1}}
	expectGo(t, p, s, api.Result{Done: api.OutValue, Value: 1 + 55, Fuel: 40 - 17 - 20, Out: []int{least, 8, 1, 0}})
	s.Frames[api.MaxDepth-2].Locals[0] = 2
	expectGo(t, p, s, api.Result{Done: api.OutDepth, Fuel: 40 - 18, Out: []int{least, 8, 2, 1}})
}

func TestGoOfFullOut(t *testing.T) {
	full := make([]int, api.MaxFuel)
	s := start(t, endless(), nil, 0)
	s.Out = full
	expectGo(t, endless(), s, api.Result{Done: api.OutFuel, Out: full})
	s.Out, s.Fuel = full[:api.MaxFuel-5], 5
	want := append(slices.Clone(s.Out), 7, 8)
	expectGo(t, endless(), s, api.Result{Done: api.OutFuel, Out: want})
}

func TestGoOfWhatIsDone(t *testing.T) {
	p := endless()
	for _, fuel := range []int{0, 1, 77, api.MaxFuel - 3} {
		for _, out := range [][]int{nil, {}, {least, 0, greatest}} {
			for _, x := range []int{least, -1, 0, 1, greatest} {
				s := api.State{Done: api.OutValue, Value: x, Fuel: fuel, Out: out}
				expectGo(t, p, s, withFuel(value(x, out...), fuel))
			}
			for _, done := range []int{api.OutZero, api.OutDepth, api.OutFuel} {
				s := api.State{Done: done, Fuel: fuel, Out: out, Frames: []api.Frame{}}
				expectGo(t, p, s, api.Result{Done: done, Fuel: fuel, Out: out})
			}
		}
	}
}

// TestGoIsStepAfterStep holds that it comes, from wherever a program is on its
// way, to where its steps lead.
func TestGoIsStepAfterStep(t *testing.T) {
	ends := map[int]int{}
	from := func(p api.Program, args []int, fuel int) {
		t.Helper()
		states := statesFrom(t, p, start(t, p, args, fuel))
		want := resultOf(states[len(states)-1])
		ends[want.Done]++
		for _, s := range states {
			expectGo(t, p, s, want)
		}
	}
	for _, r := range rows() {
		for _, fuel := range []int{0, 1, r.cost / 2, r.cost - 1, r.cost, r.cost + 9} {
			from(r.p, r.args, min(fuel, 300))
		}
	}
	from(endless(), nil, 40)
	for _, p := range smallPrograms() {
		if verify.Program(p) == api.OK {
			from(p, []int{2, 0}, 40)
		}
	}
	for done := api.OutValue; done <= api.OutFuel; done++ {
		if ends[done] < 20 {
			t.Errorf("%d programs came to %d", ends[done], done)
		}
	}
}

func TestMoreFuel(t *testing.T) {
	for _, r := range rows() {
		expectEval(t, r.p, r.args, r.cost, r.want)
		for fuel := range r.cost {
			got := evalOK(t, r.p, r.args, fuel)
			if got.Done != api.OutFuel || got.Value != 0 || got.Fuel != 0 || !isBeginning(got.Out, r.want.Out) {
				t.Errorf("P8.3: Eval(%v, %v, %d) is %v, with %d more %v", r.p, r.args, fuel, got, r.cost-fuel, r.want)
			}
		}
	}
}

func TestMoreFuelOfSmallPrograms(t *testing.T) {
	args := []int{2, 0}
	for _, p := range smallPrograms() {
		if verify.Program(p) != api.OK {
			continue
		}
		got := evalOK(t, p, args, 40)
		if got.Done == api.OutFuel {
			more := evalOK(t, p, args, 90)
			if got.Fuel != 0 || !isBeginning(got.Out, more.Out) {
				t.Errorf("P8.3: Eval(%v, %v, 40) is %v, with 50 more %v", p, args, got, more)
			}
			continue
		}
		cost := 40 - got.Fuel
		for _, more := range []int{0, 1, 50, api.MaxFuel - cost} {
			expectEval(t, p, args, cost+more, withFuel(got, more))
		}
		none := evalOK(t, p, args, cost-1)
		if none.Done != api.OutFuel || none.Value != 0 || none.Fuel != 0 || !isBeginning(none.Out, got.Out) {
			t.Errorf("P8.3: Eval(%v, %v, %d) is %v, with one more %v", p, args, cost-1, none, got)
		}
	}
}

func TestTheProgramIsNotChanged(t *testing.T) {
	odd := api.Ins{Kind: 99, A: 98}
	for _, r := range rows() {
		funcs := slices.Clone(r.p.Funcs)
		for fn, f := range r.p.Funcs {
			n := len(f.Code)
			r.p.Funcs[fn].Code = append(slices.Clone(f.Code), odd)[: n : n+1]
		}
		evalOK(t, r.p, r.args, r.cost)
		goOK(t, r.p, start(t, r.p, r.args, r.cost))
		for fn, want := range funcs {
			got := r.p.Funcs[fn]
			n := len(want.Code)
			if !slices.Equal(got.Code, want.Code) || got.Code[:n+1][n] != odd || got.Args != want.Args || got.Locals != want.Locals {
				t.Errorf("R4: function %d is %v, was %v", fn, got, want)
			}
		}
	}
}

func TestSeveralGoroutines(t *testing.T) {
	all := rows()
	s := amid(down(), 4)
	var group sync.WaitGroup
	for range 8 {
		group.Go(func() {
			for _, r := range all {
				if got, err := eval.Eval(r.p, r.args, r.cost); err != api.OK || !same(got, r.want) {
					t.Errorf("P8.1: Eval is %v, %d, want %v", got, err, r.want)
				}
			}
			want := withFuel(value(11, least, 8), 33)
			if got, err := eval.Go(down(), s); err != api.OK || !same(got, want) {
				t.Errorf("P8.2: Go is %v, %d, want %v", got, err, want)
			}
		})
	}
	group.Wait()
}
