package step_test

import (
	"math"
	"slices"
	"sync"
	"testing"

	"swage/api"
	"swage/frame"
	"swage/step"
	"swage/verify"
)

const (
	least    = -2147483648
	greatest = 2147483647
	modulus  = 4294967296
)

var (
	one  = number(1)
	dup  = api.Ins{Kind: api.InsDup}
	drop = api.Ins{Kind: api.InsDrop}
	show = api.Ins{Kind: api.InsPrint}
	ret  = api.Ins{Kind: api.InsRet}
)

var noNumbers = [...]int{least - 1, greatest + 1, modulus, -modulus, modulus + 1, math.MinInt, math.MaxInt}

func number(a int) api.Ins { return api.Ins{Kind: api.InsConst, A: a} }

func load(a int) api.Ins { return api.Ins{Kind: api.InsLoad, A: a} }

func store(a int) api.Ins { return api.Ins{Kind: api.InsStore, A: a} }

func operate(kind int) api.Ins { return api.Ins{Kind: kind} }

func jump(a int) api.Ins { return api.Ins{Kind: api.InsJump, A: a} }

func zero(a int) api.Ins { return api.Ins{Kind: api.InsZero, A: a} }

func call(a int) api.Ins { return api.Ins{Kind: api.InsCall, A: a} }

func function(args, locals int, code ...api.Ins) api.Func {
	return api.Func{Args: args, Locals: locals, Code: code}
}

// around is a program whose function 1, with locals 2 of which none is an
// argument, has that code; function 0 calls it and itself, function 2 has
// arguments 3 and locals 5, function 3 has none of both.
func around(code ...api.Ins) api.Program {
	return api.Program{Funcs: []api.Func{
		function(0, 1, one, call(0), call(1), ret),
		function(0, 2, code...),
		function(3, 5, load(0), ret),
		function(0, 0, one, ret),
	}}
}

// deep is a state of such a program with so many frames, fuel 5, and two in Out:
// the top one is function 1's.
func deep(frames int, pc int, locals [2]int, stack ...int) api.State {
	s := api.State{Fuel: 5, Out: []int{least, 8}}
	for k := range frames - 1 {
		// It waits for function 0, the last one of these for function 1.
		f := api.Frame{Pc: 2, Locals: []int{100 + k}, Stack: []int{200 + k}}
		if k == frames-2 {
			f.Pc, f.Stack = 3, append(f.Stack, 300)
		}
		s.Frames = append(s.Frames, f)
	}
	s.Frames = append(s.Frames, api.Frame{Fn: 1, Pc: pc, Locals: locals[:], Stack: stack})
	return s
}

func top(s api.State) *api.Frame { return &s.Frames[len(s.Frames)-1] }

// TestKindsWithinAFrame tells by hand of each kind that stays in its frame what
// comes of it, whatever is below on its stack, and however many frames are.
func TestKindsWithinAFrame(t *testing.T) {
	at := [2]int{7, -9}
	for _, row := range []struct {
		i      api.Ins
		stack  []int
		pc     int
		locals [2]int
		left   []int
	}{
		{i: number(5), pc: 1, locals: at, left: []int{5}},
		{i: number(least), pc: 1, locals: at, left: []int{least}},
		{i: number(greatest), pc: 1, locals: at, left: []int{greatest}},
		{i: load(0), pc: 1, locals: at, left: []int{7}},
		{i: load(1), pc: 1, locals: at, left: []int{-9}},
		{i: store(0), stack: []int{4}, pc: 1, locals: [2]int{4, -9}},
		{i: store(1), stack: []int{least}, pc: 1, locals: [2]int{7, least}},
		{i: operate(api.InsAdd), stack: []int{20, 6}, pc: 1, locals: at, left: []int{26}},
		{i: operate(api.InsSub), stack: []int{20, 6}, pc: 1, locals: at, left: []int{14}},
		{i: operate(api.InsMul), stack: []int{20, 6}, pc: 1, locals: at, left: []int{120}},
		{i: operate(api.InsDiv), stack: []int{20, 6}, pc: 1, locals: at, left: []int{3}},
		{i: operate(api.InsRem), stack: []int{20, 6}, pc: 1, locals: at, left: []int{2}},
		{i: operate(api.InsEq), stack: []int{20, 6}, pc: 1, locals: at, left: []int{0}},
		{i: operate(api.InsEq), stack: []int{6, 6}, pc: 1, locals: at, left: []int{1}},
		{i: operate(api.InsLt), stack: []int{20, 6}, pc: 1, locals: at, left: []int{0}},
		{i: operate(api.InsLt), stack: []int{6, 20}, pc: 1, locals: at, left: []int{1}},
		{i: dup, stack: []int{-3}, pc: 1, locals: at, left: []int{-3, -3}},
		{i: drop, stack: []int{-3}, pc: 1, locals: at},
		{i: jump(2), pc: 2, locals: at},
		{i: zero(2), stack: []int{0}, pc: 2, locals: at},
		{i: zero(2), stack: []int{1}, pc: 1, locals: at},
		{i: zero(2), stack: []int{-1}, pc: 1, locals: at},
		{i: zero(2), stack: []int{least}, pc: 1, locals: at},
		{i: zero(2), stack: []int{greatest}, pc: 1, locals: at},
	} {
		for frames := 1; frames <= api.MaxDepth; frames++ {
			for _, under := range [][]int{nil, {60}, {61, 62, 63, 0, 65}} {
				// Ahead of it as many constants as are on the stack: it is at pc n.
				n := len(under) + len(row.stack)
				i := row.i
				if i.Kind == api.InsJump || i.Kind == api.InsZero {
					i.A += n
				}
				p := around(append(slices.Repeat([]api.Ins{one}, n), i, jump(n+2), one, ret)...)
				s := deep(frames, n, at, slices.Concat(under, row.stack)...)
				want := deep(frames, n+row.pc, row.locals, slices.Concat(under, row.left)...)
				want.Fuel = 4
				expectStep(t, p, s, want)
			}
		}
	}
}

func TestOperationsAreThoseOfLayer1(t *testing.T) {
	some := []int{least, least + 1, -65536, -46341, -7, -2, -1, 0, 1, 2, 3, 7, 46341, 65536, greatest - 1, greatest}
	for kind := api.InsAdd; kind <= api.InsLt; kind++ {
		p := around(one, one, operate(kind), ret)
		for _, a := range some {
			for _, b := range some {
				s := deep(2, 2, [2]int{}, a, b)
				want := api.State{Done: api.OutZero, Fuel: 4, Out: s.Out}
				if value, ok := plain(kind, int32(a), int32(b)); ok {
					want = deep(2, 3, [2]int{}, int(value))
					want.Fuel = 4
				}
				expectStep(t, p, s, want)
			}
		}
	}
}

func TestDivisionByZero(t *testing.T) {
	for _, kind := range []int{api.InsDiv, api.InsRem} {
		p := around(one, one, one, operate(kind), ret)
		for _, a := range []int{least, -1, 0, 1, greatest} {
			for frames := 1; frames <= api.MaxDepth; frames++ {
				s := deep(frames, 3, [2]int{1, 2}, 9, a, 0)
				expectStep(t, p, s, api.State{Done: api.OutZero, Fuel: 4, Out: []int{least, 8}})
				s.Fuel, s.Out = 1, nil
				expectStep(t, p, s, api.State{Done: api.OutZero})
			}
		}
	}
}

func TestJumpsAheadAndBack(t *testing.T) {
	p := around(jump(4), one, zero(4), jump(5), jump(1), jump(5))
	for pc, want := range map[int]int{0: 4, 3: 5, 4: 1, 5: 5} {
		s := deep(2, pc, [2]int{1, 2})
		to := deep(2, want, [2]int{1, 2})
		to.Fuel = 4
		expectStep(t, p, s, to)
	}
	for x, want := range map[int]int{0: 4, 1: 3, -1: 3, least: 3, greatest: 3} {
		to := deep(2, want, [2]int{1, 2})
		to.Fuel = 4
		expectStep(t, p, deep(2, 2, [2]int{1, 2}, x), to)
	}
	back := around(one, zero(0), one, ret)
	for x, want := range map[int]int{0: 0, 2: 2} {
		to := deep(1, want, [2]int{})
		to.Fuel = 4
		expectStep(t, back, deep(1, 1, [2]int{}, x), to)
	}
	// A jump of 0 to the next one is the same either way.
	next := around(one, zero(2), one, ret)
	for _, x := range []int{0, 1} {
		to := deep(1, 2, [2]int{})
		to.Fuel = 4
		expectStep(t, next, deep(1, 1, [2]int{}, x), to)
	}
}

func TestPrintsStandInTheirRow(t *testing.T) {
	p := around(one, one, show, show, one, ret)
	for _, out := range [][]int{nil, {3}, {3, 1, 2}, make([]int, api.MaxFuel-1)} {
		s := deep(3, 3, [2]int{1, 2}, greatest)
		s.Fuel, s.Out = 1, out
		want := deep(3, 4, [2]int{1, 2})
		want.Fuel, want.Out = 0, append(slices.Clone(out), greatest)
		expectStep(t, p, s, want)
	}
	s := deep(2, 2, [2]int{}, 5, 6)
	for _, out := range [][]int{{least, 8, 6}, {least, 8, 6, 5}} {
		next, err := step.Step(p, s)
		if err != api.OK || !slices.Equal(next.Out, out) {
			t.Fatalf("P7.1: Out is %v, %d, want %v", next.Out, err, out)
		}
		s = next
	}
}

func TestCallsTakeArguments(t *testing.T) {
	for args := range api.MaxArgs + 1 {
		for locals := args; locals <= api.MaxLocals; locals++ {
			p := around(append(slices.Repeat([]api.Ins{one}, 6), call(2), ret)...)
			p.Funcs[2] = function(args, locals, one, ret)
			for frames := 1; frames < api.MaxDepth; frames++ {
				stack := []int{11, 12, 13, 14, greatest, least}
				want := deep(frames, 7, [2]int{1, 2}, stack[:6-args]...)
				want.Fuel = 4
				begins := append(slices.Clone(stack[6-args:]), make([]int, locals-args)...)
				want.Frames = append(want.Frames, api.Frame{Fn: 2, Locals: begins})
				expectStep(t, p, deep(frames, 6, [2]int{1, 2}, stack...), want)
			}
		}
	}
}

func TestCallsOfItselfAndOfOthers(t *testing.T) {
	p := around(call(3), call(1), call(0), one, one, call(2), ret)
	for pc, fn := range []int{3, 1, 0} {
		stack := []int{50, 51}[:pc]
		want := deep(2, pc+1, [2]int{1, 2}, stack...)
		want.Fuel = 4
		locals := make([]int, p.Funcs[fn].Locals)
		want.Frames = append(want.Frames, api.Frame{Fn: fn, Locals: locals})
		expectStep(t, p, deep(2, pc, [2]int{1, 2}, stack...), want)
	}
	want := deep(2, 6, [2]int{1, 2}, 50, 51)
	want.Fuel = 4
	want.Frames = append(want.Frames, api.Frame{Fn: 2, Locals: []int{52, 53, 54, 0, 0}})
	expectStep(t, p, deep(2, 5, [2]int{1, 2}, 50, 51, 52, 53, 54), want)
}

func TestCallsTooDeep(t *testing.T) {
	p := around(one, one, one, call(2), call(3), ret)
	for frames := 1; frames <= api.MaxDepth; frames++ {
		for pc := 3; pc <= 4; pc++ {
			s := deep(frames, pc, [2]int{1, 2}, []int{5, 6, 7}[:3-2*(pc-3)]...)
			next := expectOK(t, p, s)
			if frames < api.MaxDepth && (len(next.Frames) != frames+1 || next.Done != api.OutNone) {
				t.Errorf("P7.1: a call with %d frames: %v", frames, next)
			}
			if frames == api.MaxDepth {
				expectStep(t, p, s, api.State{Done: api.OutDepth, Fuel: 4, Out: []int{least, 8}})
			}
		}
	}
	s := deep(api.MaxDepth, 3, [2]int{1, 2}, 5, 6, 7)
	s.Fuel, s.Out = 1, nil
	expectStep(t, p, s, api.State{Done: api.OutDepth})
}

func TestReturnsToTheFrameBelow(t *testing.T) {
	p := around(one, one, one, ret)
	for frames := 2; frames <= api.MaxDepth; frames++ {
		for _, value := range []int{least, -1, 0, 1, greatest} {
			// What else is on its stack goes with it.
			s := deep(frames, 3, [2]int{1, 2}, 70, 71, value)
			want := deep(frames, 3, [2]int{1, 2})
			want.Frames = want.Frames[:frames-1]
			want.Fuel = 4
			f := top(want)
			f.Stack = append(f.Stack, value)
			expectStep(t, p, s, want)
		}
	}
}

func TestReturnsOfTheFirstFrame(t *testing.T) {
	for _, value := range []int{least, -1, 0, 1, greatest} {
		for fuel := 1; fuel <= 3; fuel++ {
			p := around(one, one, ret)
			s := deep(1, 2, [2]int{1, 2}, 70, value)
			s.Fuel = fuel
			expectStep(t, p, s, api.State{Done: api.OutValue, Value: value, Fuel: fuel - 1, Out: []int{least, 8}})
		}
	}
}

func TestOutOfFuel(t *testing.T) {
	for i, p := range everyKind() {
		for frames := 1; frames <= api.MaxDepth; frames++ {
			s := deep(frames, 3, [2]int{1, 2}, 5, 6, 0)
			s.Fuel = 0
			expectStep(t, p, s, api.State{Done: api.OutFuel, Out: []int{least, 8}})
			s.Out = nil
			expectStep(t, p, s, api.State{Done: api.OutFuel})
			s.Fuel = 1
			if next := expectOK(t, p, s); next.Done == api.OutFuel || next.Fuel != 0 {
				t.Errorf("P7.1: kind %d with fuel 1: %v", i, next)
			}
		}
	}
}

// everyKind are programs with each kind at pc 3 of function 1, with three on the
// stack ahead of it.
func everyKind() []api.Program {
	var all []api.Program
	for kind := api.InsConst; kind <= api.InsRet; kind++ {
		i := api.Ins{Kind: kind}
		switch kind {
		case api.InsJump, api.InsZero:
			i.A = 4
		case api.InsCall:
			i.A = 2
		}
		all = append(all, around(one, one, one, i, one, ret))
	}
	return all
}

func TestStepsOfWhatIsDoneStay(t *testing.T) {
	p := around(one, ret)
	for _, fuel := range []int{0, 1, 77, api.MaxFuel - 3} {
		for _, out := range [][]int{nil, {}, {least, 0, greatest}} {
			for _, value := range []int{least, -1, 0, 1, greatest} {
				s := api.State{Done: api.OutValue, Value: value, Fuel: fuel, Out: out}
				expectStep(t, p, s, s)
			}
			for _, done := range []int{api.OutZero, api.OutDepth, api.OutFuel} {
				s := api.State{Done: done, Fuel: fuel, Out: out, Frames: []api.Frame{}}
				expectStep(t, p, s, s)
			}
		}
	}
}

func TestStepRefusesWhatMayNotBe(t *testing.T) {
	p := around(one, one, operate(api.InsAdd), ret, one)
	good := func() api.State { return deep(3, 2, [2]int{1, 2}, 3, 4) }
	expectOK(t, p, good())
	refuse := func(change func(s *api.State)) {
		t.Helper()
		s := good()
		change(&s)
		expectNone(t, p, s)
	}
	expectNone(t, p, api.State{})
	for _, fuel := range []int{math.MinInt, -modulus, -1, api.MaxFuel - 1, api.MaxFuel, modulus, math.MaxInt} {
		refuse(func(s *api.State) { s.Fuel = fuel })
	}
	for _, x := range noNumbers {
		refuse(func(s *api.State) { s.Value = x })
		refuse(func(s *api.State) { s.Out[1] = x })
		refuse(func(s *api.State) { s.Frames[0].Stack[0] = x })
		refuse(func(s *api.State) { s.Frames[1].Locals[0] = x })
		refuse(func(s *api.State) { top(*s).Stack[1] = x })
		refuse(func(s *api.State) { top(*s).Locals[1] = x })
	}
	for _, x := range []int{math.MinInt, -1, 4, 5, 64, modulus, modulus + 1, math.MaxInt} {
		refuse(func(s *api.State) { top(*s).Pc = x })
		refuse(func(s *api.State) { top(*s).Fn = x })
		refuse(func(s *api.State) { s.Frames[1].Fn = x })
		refuse(func(s *api.State) { s.Frames[0].Pc = x })
		refuse(func(s *api.State) { s.Done = x })
	}
	refuse(func(s *api.State) { s.Value = 1 })
	refuse(func(s *api.State) { s.Frames = nil })
	refuse(func(s *api.State) { s.Frames = s.Frames[:2] })
	refuse(func(s *api.State) { s.Frames = deep(api.MaxDepth+1, 2, [2]int{1, 2}, 3, 4).Frames })
	refuse(func(s *api.State) { s.Fuel, s.Frames = 0, deep(api.MaxDepth+1, 2, [2]int{1, 2}, 3, 4).Frames })
	for _, stack := range [][]int{nil, {3}, {3, 4, 5}} {
		refuse(func(s *api.State) { top(*s).Stack = stack })
	}
	for _, locals := range [][]int{nil, {3}, {3, 4, 5}} {
		refuse(func(s *api.State) { top(*s).Locals = locals })
	}
	refuse(func(s *api.State) { s.Frames[1].Stack = s.Frames[1].Stack[:1] })
	for _, done := range []int{api.OutValue, api.OutZero, api.OutDepth, api.OutFuel} {
		refuse(func(s *api.State) { s.Done = done })
		refuse(func(s *api.State) { s.Done, s.Frames, s.Value = done, nil, greatest+1 })
		refuse(func(s *api.State) { s.Done, s.Frames, s.Fuel = done, nil, -1 })
	}
	refuse(func(s *api.State) { s.Done, s.Frames, s.Value = api.OutZero, nil, 1 })
}

func TestStepRefusesProgramsThatAreNotVerified(t *testing.T) {
	s := deep(3, 2, [2]int{1, 2}, 3, 4)
	for _, p := range []api.Program{
		{},
		{Funcs: make([]api.Func, 1)},
		{Funcs: make([]api.Func, 100000)},
		around(),
		around(one, one, operate(api.InsAdd)),
		around(one, one, operate(api.InsAdd), drop, ret),
		around(one, one, operate(api.InsAdd), jump(9)),
		around(one, one, operate(api.InsAdd), ret, operate(17)),
		around(one, one, operate(api.InsAdd), call(4), ret),
		around(one, one, operate(api.InsAdd), store(2), one, ret),
		{Funcs: append(around(one, one, operate(api.InsAdd), ret).Funcs, function(0, 0, ret))},
	} {
		expectNone(t, p, s)
		expectNone(t, p, api.State{Frames: s.Frames[2:]})
		for done := api.OutNone; done <= api.OutFuel; done++ {
			expectNone(t, p, api.State{Done: done})
		}
	}
}

// TestSmallPrograms goes, from the beginning to the end, through all programs
// whose first function goes on so with three of some instructions.
func TestSmallPrograms(t *testing.T) {
	some := []api.Ins{
		number(0), number(-3), load(0), load(2), store(2), dup, drop, show, ret,
		operate(api.InsAdd), operate(api.InsSub), operate(api.InsMul), operate(api.InsDiv),
		operate(api.InsRem), operate(api.InsEq), operate(api.InsLt),
		jump(2), jump(5), zero(1), zero(3), zero(5), call(0), call(1),
	}
	ran := map[int]int{}
	for _, x := range some {
		for _, y := range some {
			for _, z := range some {
				p := api.Program{Funcs: []api.Func{
					function(2, 3, load(0), load(1), x, y, z, ret),
					function(2, 2, load(0), load(1), operate(api.InsSub), show, load(1), ret),
				}}
				if verify.Program(p) != api.OK {
					continue
				}
				s, err := frame.Start(p, []int{2, 0}, 40)
				for s.Done == api.OutNone && err == api.OK {
					next := expectOK(t, p, s)
					if want := reference(p, s); !same(next, want) {
						t.Fatalf("P7.1: Step(%v, %v) is %v, want %v", p, s, next, want)
					}
					s = next
				}
				ran[s.Done]++
			}
		}
	}
	for done := api.OutValue; done <= api.OutFuel; done++ {
		if ran[done] < 20 {
			t.Errorf("%d programs came to %d", ran[done], done)
		}
	}
}

func TestFromTheBeginningToDepth(t *testing.T) {
	p := api.Program{Funcs: []api.Func{function(0, 1, load(0), show, call(0), ret)}}
	s, err := frame.Start(p, nil, 50)
	for n := 0; s.Done == api.OutNone && err == api.OK; n++ {
		if len(s.Frames) != n/3+1 || s.Fuel != 50-n || len(s.Out) != (n+1)/3 {
			t.Errorf("P7.1: behind %d steps: %v", n, s)
		}
		s, err = step.Step(p, s)
	}
	if want := (api.State{Done: api.OutDepth, Fuel: 14, Out: make([]int, 12)}); err != api.OK || !same(s, want) {
		t.Errorf("P7.1: it comes to %v, %d, want %v", s, err, want)
	}
}

func TestTheProgramIsNotChanged(t *testing.T) {
	odd := api.Ins{Kind: 99, A: 98}
	for kind, p := range everyKind() {
		funcs := len(p.Funcs)
		code := slices.Clone(p.Funcs[1].Code)
		n := len(code)
		p.Funcs[1].Code = append(p.Funcs[1].Code, odd)[: n : n+1]
		expectOK(t, p, deep(2, 3, [2]int{1, 2}, 5, 6, 0))
		f := p.Funcs[1]
		if !slices.Equal(f.Code, code) || f.Code[:n+1][n] != odd || f.Args != 0 || f.Locals != 2 || len(p.Funcs) != funcs {
			t.Errorf("R4: kind %d changed the program: %v", kind, p)
		}
	}
}

func TestSeveralGoroutines(t *testing.T) {
	p := around(one, one, one, call(2), ret)
	s := deep(3, 3, [2]int{1, 2}, 3, 4, 5)
	want := deep(3, 4, [2]int{1, 2})
	want.Fuel = 4
	want.Frames = append(want.Frames, api.Frame{Fn: 2, Locals: []int{3, 4, 5, 0, 0}})
	var all sync.WaitGroup
	for range 8 {
		all.Go(func() {
			for range 100 {
				if got, err := step.Step(p, s); err != api.OK || !same(got, want) {
					t.Errorf("P7.1: Step is %v, %d, want %v", got, err, want)
				}
			}
		})
	}
	all.Wait()
}

// reference tells the step behind a state that runs, written another way: by
// what an instruction leaves of its stack.
func reference(p api.Program, s api.State) api.State {
	s = clone(s)
	if s.Fuel == 0 {
		return api.State{Done: api.OutFuel, Out: s.Out}
	}
	s.Fuel--
	over := api.State{Fuel: s.Fuel, Out: s.Out}
	last := len(s.Frames) - 1
	f := &s.Frames[last]
	i := p.Funcs[f.Fn].Code[f.Pc]
	n := len(f.Stack)
	f.Pc++
	switch {
	case i.Kind == api.InsConst:
		f.Stack = slices.Concat(f.Stack, []int{i.A})
	case i.Kind == api.InsLoad:
		f.Stack = slices.Concat(f.Stack, f.Locals[i.A:i.A+1])
	case i.Kind == api.InsDup:
		f.Stack = slices.Concat(f.Stack, f.Stack[n-1:])
	case i.Kind == api.InsJump:
		f.Pc = i.A
	case i.Kind == api.InsCall:
		if last+1 == api.MaxDepth {
			over.Done = api.OutDepth
			return over
		}
		g := p.Funcs[i.A]
		locals := slices.Concat(f.Stack[n-g.Args:], make([]int, g.Locals-g.Args))
		f.Stack = f.Stack[:n-g.Args]
		s.Frames = append(s.Frames, api.Frame{Fn: i.A, Locals: locals})
	case i.Kind >= api.InsAdd && i.Kind <= api.InsLt:
		x, ok := plain(i.Kind, int32(f.Stack[n-2]), int32(f.Stack[n-1]))
		if !ok {
			over.Done = api.OutZero
			return over
		}
		f.Stack = slices.Concat(f.Stack[:n-2], []int{int(x)})
	default:
		return referenceOfOne(s, i, f.Stack[n-1], over)
	}
	return s
}

// referenceOfOne has the kinds that take one and put none, x being it.
func referenceOfOne(s api.State, i api.Ins, x int, over api.State) api.State {
	last := len(s.Frames) - 1
	f := &s.Frames[last]
	f.Stack = f.Stack[:len(f.Stack)-1]
	switch {
	case i.Kind == api.InsStore:
		f.Locals[i.A] = x
	case i.Kind == api.InsZero && x == 0:
		f.Pc = i.A
	case i.Kind == api.InsPrint:
		s.Out = append(s.Out, x)
	case i.Kind == api.InsRet && last == 0:
		over.Done, over.Value = api.OutValue, x
		return over
	case i.Kind == api.InsRet:
		s.Frames = s.Frames[:last]
		below := &s.Frames[last-1]
		below.Stack = slices.Concat(below.Stack, []int{x})
	}
	return s
}

// plain leans on what Go's own numbers of 32 bits do; it is false of a trap.
func plain(kind int, a, b int32) (int32, bool) {
	truth := map[bool]int32{true: 1}
	switch kind {
	case api.InsAdd:
		return a + b, true
	case api.InsSub:
		return a - b, true
	case api.InsMul:
		return a * b, true
	case api.InsEq:
		return truth[a == b], true
	case api.InsLt:
		return truth[a < b], true
	}
	if b == 0 {
		return 0, false
	}
	if kind == api.InsDiv {
		return a / b, true
	}
	return a % b, true
}
