package frame_test

import (
	"math"
	"slices"
	"sync"
	"testing"

	"swage/api"
	"swage/frame"
)

const (
	least    = -2147483648
	greatest = 2147483647
	modulus  = 4294967296
)

var (
	add  = api.Ins{Kind: api.InsAdd}
	dup  = api.Ins{Kind: api.InsDup}
	drop = api.Ins{Kind: api.InsDrop}
	ret  = api.Ins{Kind: api.InsRet}
	one  = api.Ins{Kind: api.InsConst, A: 1}
)

var noNumbers = [...]int{least - 1, greatest + 1, modulus, -modulus, modulus + 1, math.MinInt, math.MaxInt}

func load(a int) api.Ins { return api.Ins{Kind: api.InsLoad, A: a} }

func jump(a int) api.Ins { return api.Ins{Kind: api.InsJump, A: a} }

func call(a int) api.Ins { return api.Ins{Kind: api.InsCall, A: a} }

func function(args, locals int, code ...api.Ins) api.Func {
	return api.Func{Args: args, Locals: locals, Code: code}
}

// calling is a program whose functions call one another, and have calls that
// are not reached ahead of pcs that are.
func calling() api.Program {
	return api.Program{Funcs: []api.Func{
		function(1, 2, one, load(0), call(1), add, call(2), dup, drop, ret),
		function(1, 1, one, jump(3), call(2), call(0), ret, one),
		function(1, 3, one, one, call(1), call(2), jump(6), call(1), add, ret, call(0)),
	}}
}

// unreached is what calling's tables say of a pc that nothing leads to.
const unreached = -1

// height and called tell of calling, by hand, how many stand ahead of a pc, and
// which function the reached call right ahead of it is of.
func height(fn, pc int) int {
	return [][]int{
		{0, 1, 2, 2, 1, 1, 2, 1},
		{0, 1, unreached, 1, 1, unreached},
		{0, 1, 2, 2, 2, unreached, 2, 1, unreached},
	}[fn][pc]
}

func called(fn, pc int) int {
	return [][]int{
		{-1, -1, -1, 1, -1, 2, -1, -1},
		{-1, -1, -1, -1, 0, -1},
		{-1, -1, -1, 1, 2, -1, -1, -1, -1},
	}[fn][pc]
}

// running is a state of calling with three frames, of which each may be.
func running() api.State {
	return api.State{
		Frames: []api.Frame{
			{Fn: 0, Pc: 3, Locals: []int{7, least}, Stack: []int{greatest}},
			{Fn: 1, Pc: 4, Locals: []int{-1}, Stack: []int{}},
			{Fn: 0, Pc: 2, Locals: []int{0, greatest}, Stack: []int{least, 5}},
		},
		Fuel: 9,
		Out:  []int{least, 0, greatest},
	}
}

// faulty are programs that may not run, but part from calling in one thing alone.
func faulty() []api.Program {
	turn := func(change func(p *api.Program)) api.Program {
		p := calling()
		change(&p)
		return p
	}
	return []api.Program{
		turn(func(p *api.Program) { p.Funcs[2].Locals = 9 }),
		turn(func(p *api.Program) { p.Funcs[2].Code[8].A = 8 }),
		turn(func(p *api.Program) { p.Funcs[2].Code[3] = call(3) }),
		turn(func(p *api.Program) { p.Funcs[2].Code[4] = drop }),
		turn(func(p *api.Program) { p.Funcs[2].Code = p.Funcs[2].Code[:7] }),
		turn(func(p *api.Program) { p.Funcs[0].Code[5] = add }),
		turn(func(p *api.Program) { p.Funcs = append(p.Funcs, function(0, 0)) }),
		turn(func(p *api.Program) { p.Funcs = append(p.Funcs, function(0, 0, ret)) }),
		turn(func(p *api.Program) { p.Funcs = append(p.Funcs, function(0, 0, one)) }),
		turn(func(p *api.Program) { p.Funcs = slices.Repeat(p.Funcs, 3) }),
	}
}

func TestMayOfFramesThatMayBe(t *testing.T) {
	p := calling()
	for _, f := range []api.Frame{
		{Fn: 0, Pc: 0, Locals: []int{0, 0}},
		{Fn: 0, Pc: 3, Locals: []int{1, 2}, Stack: []int{3, 4}},
		{Fn: 0, Pc: 7, Locals: []int{least, greatest}, Stack: []int{greatest}},
		{Fn: 1, Pc: 3, Locals: []int{least}, Stack: []int{least}},
		{Fn: 2, Pc: 0, Locals: []int{-1, -2, -3}, Stack: []int{}},
		{Fn: 2, Pc: 6, Locals: []int{0, 0, 0}, Stack: []int{greatest, least}},
	} {
		expectMay(t, p, f, true)
	}
	// A function without locals, and a stack that is full.
	full := api.Program{Funcs: []api.Func{function(0, 0, append(slices.Repeat([]api.Ins{one}, 8), ret)...)}}
	expectMay(t, full, api.Frame{}, true)
	expectMay(t, full, api.Frame{Locals: []int{}, Stack: []int{}}, true)
	expectMay(t, full, api.Frame{Pc: 8, Stack: make([]int, 8)}, true)
	expectMay(t, full, api.Frame{Pc: 8, Stack: make([]int, 7)}, false)
	expectMay(t, full, api.Frame{Pc: 8, Stack: make([]int, 9)}, false)
	greatestLocals := api.Program{Funcs: []api.Func{function(4, 8, one, ret)}}
	expectMay(t, greatestLocals, api.Frame{Locals: make([]int, 8)}, true)
	expectMay(t, greatestLocals, api.Frame{Locals: make([]int, 4)}, false)
}

func TestMayOfProgramsThatAreNotVerified(t *testing.T) {
	f := api.Frame{Fn: 1, Pc: 4, Locals: []int{1}, Stack: []int{2}}
	expectMay(t, calling(), f, true)
	for _, p := range faulty() {
		expectMay(t, p, f, false)
	}
	for _, p := range []api.Program{{}, {Funcs: []api.Func{}}, {Funcs: make([]api.Func, 1)}, {Funcs: make([]api.Func, 100000)}} {
		expectMay(t, p, f, false)
		expectMay(t, p, api.Frame{}, false)
	}
}

func TestMayPartsInOneThing(t *testing.T) {
	good := func() api.Frame {
		return api.Frame{Fn: 2, Pc: 3, Locals: []int{1, 2, 3}, Stack: []int{4, 5}}
	}
	p := calling()
	expectMay(t, p, good(), true)
	refuse := func(change func(f *api.Frame)) {
		t.Helper()
		f := good()
		change(&f)
		expectMay(t, p, f, false)
	}
	for _, fn := range []int{math.MinInt, -modulus + 2, -3, -1, 3, 4, 8, modulus, modulus + 2, math.MaxInt} {
		refuse(func(f *api.Frame) { f.Fn = fn })
	}
	// 5 and 8 are not reached, 9 is right behind the last one.
	for _, pc := range []int{math.MinInt, -modulus + 3, -1, 5, 8, 9, 10, 64, modulus + 3, math.MaxInt} {
		refuse(func(f *api.Frame) { f.Pc = pc })
		for n := range 10 {
			refuse(func(f *api.Frame) { f.Pc, f.Stack = pc, make([]int, n) })
		}
	}
	refuse(func(f *api.Frame) { f.Locals = f.Locals[:2] })
	refuse(func(f *api.Frame) { f.Locals = append(f.Locals, 4) })
	refuse(func(f *api.Frame) { f.Locals = nil })
	refuse(func(f *api.Frame) { f.Stack = f.Stack[:1] })
	refuse(func(f *api.Frame) { f.Stack = append(f.Stack, 6) })
	refuse(func(f *api.Frame) { f.Stack = nil })
	for _, x := range noNumbers {
		for k := range 3 {
			refuse(func(f *api.Frame) { f.Locals[k] = x })
		}
		for k := range 2 {
			refuse(func(f *api.Frame) { f.Stack[k] = x })
		}
	}
}

// TestMayOfAllPlaces goes through all places of all functions, and beside them,
// with all lengths of both lists that may be somewhere.
func TestMayOfAllPlaces(t *testing.T) {
	p := calling()
	for fn := -1; fn <= 3; fn++ {
		for pc := -1; pc <= 9; pc++ {
			for locals := range 5 {
				for stack := range 4 {
					f := api.Frame{Fn: fn, Pc: pc, Locals: make([]int, locals), Stack: make([]int, stack)}
					there := fn >= 0 && fn < 3 && pc >= 0 && pc < len(p.Funcs[fn].Code)
					want := there && locals == p.Funcs[fn].Locals && stack == height(fn, pc)
					expectMay(t, p, f, want)
				}
			}
		}
	}
}

func TestStateThatRuns(t *testing.T) {
	p := calling()
	s := running()
	expectState(t, p, s, true)
	// Each last frame alone, and what is left when calls come back.
	for _, f := range []api.Frame{
		{Fn: 0, Pc: 3, Locals: []int{7, 0}, Stack: []int{1, 2}},
		{Fn: 1, Pc: 0, Locals: []int{7}},
		{Fn: 2, Pc: 7, Locals: []int{7, 0, 1}, Stack: []int{greatest}},
	} {
		expectState(t, p, api.State{Frames: []api.Frame{f}}, true)
	}
	s.Frames[1].Stack = []int{3}
	s.Frames = s.Frames[:2]
	expectState(t, p, s, true)
	s.Frames[0].Stack = []int{3, 4}
	s.Frames = s.Frames[:1]
	expectState(t, p, s, true)
	s.Out, s.Fuel = nil, 0
	expectState(t, p, s, true)
}

func TestStateOfProgramsThatAreNotVerified(t *testing.T) {
	for _, p := range append(faulty(), api.Program{}, api.Program{Funcs: make([]api.Func, 100000)}) {
		expectState(t, p, running(), false)
		for done := api.OutNone; done <= api.OutFuel; done++ {
			expectState(t, p, api.State{Done: done}, false)
		}
	}
}

func TestStatePartsInOneThing(t *testing.T) {
	for _, fuel := range []int{math.MinInt, -modulus + 9, -1, api.MaxFuel - 2, api.MaxFuel, modulus + 9, math.MaxInt - 2, math.MaxInt} {
		refuse(t, func(s *api.State) { s.Fuel = fuel })
	}
	for _, x := range noNumbers {
		for k := range 3 {
			refuse(t, func(s *api.State) { s.Out[k] = x })
		}
		for k := range 3 {
			refuse(t, func(s *api.State) { s.Frames[k].Locals[0] = x })
		}
		refuse(t, func(s *api.State) { s.Frames[0].Stack[0] = x })
		refuse(t, func(s *api.State) { s.Frames[2].Stack[1] = x })
		refuse(t, func(s *api.State) { s.Value = x })
	}
	for _, value := range []int{least, -1, 1, 7, greatest} {
		refuse(t, func(s *api.State) { s.Value = value })
	}
	for k := range 3 {
		refuse(t, func(s *api.State) { s.Frames[k].Locals = s.Frames[k].Locals[1:] })
		refuse(t, func(s *api.State) { s.Frames[k].Locals = append(s.Frames[k].Locals, 0) })
		refuse(t, func(s *api.State) { s.Frames[k].Stack = append(s.Frames[k].Stack, 0) })
		for _, x := range []int{math.MinInt, -1, 9, 64, modulus, math.MaxInt} {
			refuse(t, func(s *api.State) { s.Frames[k].Fn = x })
			refuse(t, func(s *api.State) { s.Frames[k].Pc = x })
		}
	}
	refuse(t, func(s *api.State) { s.Frames[0].Stack = nil })
	refuse(t, func(s *api.State) { s.Frames[2].Stack = s.Frames[2].Stack[:1] })
	refuse(t, func(s *api.State) { s.Frames = nil })
	refuse(t, func(s *api.State) { s.Frames = []api.Frame{} })
	// One that waits, without the one that it waits for.
	refuse(t, func(s *api.State) { s.Frames = s.Frames[:2] })
	refuse(t, func(s *api.State) { s.Frames = slices.Delete(s.Frames, 1, 2) })
	refuse(t, func(s *api.State) { slices.Reverse(s.Frames) })
}

func TestStateOfFuelAndOut(t *testing.T) {
	p := calling()
	for _, n := range []int{0, 1, 2, 1000, api.MaxFuel - 1, api.MaxFuel} {
		for _, s := range []api.State{running(), {Done: api.OutValue, Value: -4}, {Done: api.OutZero}, {Done: api.OutDepth}, {Done: api.OutFuel}} {
			s.Out = make([]int, n)
			for fuel, want := range map[int]bool{
				api.MaxFuel - n: true, 0: true, api.MaxFuel - n + 1: false, -1: false,
				api.MaxFuel + 1: false, math.MaxInt - n + 1: false, math.MaxInt: false, math.MinInt: false,
			} {
				s.Fuel = fuel
				expectState(t, p, s, want)
			}
		}
	}
	for _, n := range []int{api.MaxFuel + 1, 2 * api.MaxFuel} {
		expectState(t, p, api.State{Done: api.OutZero, Out: make([]int, n)}, false)
		expectState(t, p, api.State{Frames: running().Frames, Out: make([]int, n)}, false)
	}
	last := make([]int, api.MaxFuel)
	last[api.MaxFuel-1] = greatest + 1
	expectState(t, p, api.State{Done: api.OutZero, Out: last}, false)
}

// TestStateOfDepth has a function that calls itself, so that only how many
// frames there are differs.
func TestStateOfDepth(t *testing.T) {
	p := api.Program{Funcs: []api.Func{function(0, 0, call(0), ret)}}
	for n := range 40 {
		s := api.State{Frames: slices.Repeat([]api.Frame{{Pc: 1}}, n)}
		if n > 0 {
			s.Frames[n-1].Pc = 0
		}
		expectState(t, p, s, n >= 1 && n <= api.MaxDepth)
		if n > 0 {
			// Behind the last one's call, with its value.
			s.Frames[n-1] = api.Frame{Pc: 1, Stack: []int{1}}
		}
		expectState(t, p, s, n >= 1 && n <= api.MaxDepth)
	}
	expectState(t, p, api.State{Frames: make([]api.Frame, 1000000)}, false)
}

// TestStateOfAllCalls goes through all pairs of places, and of how many are on
// both stacks; the last frame may be, or not.
func TestStateOfAllCalls(t *testing.T) {
	p := calling()
	may := 0
	for lower := range all(p) {
		for upper := range all(p) {
			want := called(lower.Fn, lower.Pc) == upper.Fn && len(lower.Stack) == height(lower.Fn, lower.Pc)-1 &&
				len(upper.Stack) == height(upper.Fn, upper.Pc)
			expectState(t, p, api.State{Frames: []api.Frame{lower, upper}}, want)
			// A frame in the midst is held against both others.
			below := api.Frame{Fn: 2, Pc: 3, Locals: make([]int, 3), Stack: make([]int, 1)}
			expectState(t, p, api.State{Frames: []api.Frame{below, lower, upper}}, want && lower.Fn == 1)
			if want {
				may++
			}
		}
	}
	// One reached call is of function 0, two are of 1, and two of 2; these have
	// so many reached pcs.
	if may != 1*8+2*4+2*7 {
		t.Errorf("%d pairs may be", may)
	}
}

// all are frames at each pc of p, reached or not, with each number on the Stack.
func all(p api.Program) func(yield func(api.Frame) bool) {
	return func(yield func(api.Frame) bool) {
		for fn, f := range p.Funcs {
			for pc := range f.Code {
				for stack := range 4 {
					if !yield(api.Frame{Fn: fn, Pc: pc, Locals: make([]int, f.Locals), Stack: make([]int, stack)}) {
						return
					}
				}
			}
		}
	}
}

func TestStateBehindCalls(t *testing.T) {
	p := calling()
	top := api.Frame{Fn: 2, Locals: make([]int, 3)}
	below := func(pc, stack, upper int) api.State {
		top := api.Frame{Fn: upper, Locals: make([]int, p.Funcs[upper].Locals)}
		return api.State{Frames: []api.Frame{{Fn: 0, Pc: pc, Locals: make([]int, 2), Stack: make([]int, stack)}, top}}
	}
	expectState(t, p, below(5, 0, 2), true)
	// As many as its Pc has: the value would have come already.
	expectState(t, p, below(5, 1, 2), false)
	// At the call, and two behind it, where there are as many.
	expectState(t, p, below(4, 0, 2), false)
	expectState(t, p, below(6, 1, 2), false)
	expectState(t, p, below(7, 0, 2), false)
	// Behind a call of another function.
	expectState(t, p, below(5, 0, 1), false)
	expectState(t, p, below(5, 0, 0), false)
	expectState(t, p, below(3, 1, 2), false)
	expectState(t, p, below(3, 1, 1), true)
	// Behind a call that is not reached: the pc itself is.
	lower := api.Frame{Fn: 1, Pc: 3, Locals: make([]int, 1)}
	expectState(t, p, api.State{Frames: []api.Frame{lower, top}}, false)
	lower = api.Frame{Fn: 2, Pc: 6, Locals: make([]int, 3), Stack: make([]int, 1)}
	expectState(t, p, api.State{Frames: []api.Frame{lower, {Fn: 1, Locals: make([]int, 1)}}}, false)
	// Behind no instruction.
	expectState(t, p, below(0, 0, 2), false)
}

func TestStateThatIsOver(t *testing.T) {
	p := calling()
	for _, value := range []int{least, -1, 0, 1, greatest} {
		for _, out := range [][]int{nil, {}, {least, greatest}} {
			expectState(t, p, api.State{Done: api.OutValue, Value: value, Out: out, Fuel: 3}, true)
			for _, done := range []int{api.OutZero, api.OutDepth, api.OutFuel} {
				expectState(t, p, api.State{Done: done, Value: value, Out: out, Fuel: 3}, value == 0)
			}
		}
	}
	for _, value := range noNumbers {
		for done := api.OutNone; done <= api.OutFuel; done++ {
			expectState(t, p, api.State{Done: done, Value: value}, false)
		}
	}
	for done := api.OutValue; done <= api.OutFuel; done++ {
		expectState(t, p, api.State{Done: done, Frames: []api.Frame{}}, true)
		expectState(t, p, api.State{Done: done, Frames: make([]api.Frame, 1)}, false)
		refuse(t, func(s *api.State) { s.Done = done })
		refuse(t, func(s *api.State) { s.Done, s.Frames = done, s.Frames[2:] })
		for _, x := range noNumbers {
			expectState(t, p, api.State{Done: done, Out: []int{0, x}}, false)
		}
	}
}

func TestStateOfDoneThatIsNone(t *testing.T) {
	p := calling()
	for _, done := range []int{math.MinInt, -modulus, -1, 5, 6, 9, modulus, modulus + api.OutValue, math.MaxInt} {
		expectState(t, p, api.State{Done: done}, false)
		refuse(t, func(s *api.State) { s.Done = done })
	}
	expectState(t, p, api.State{}, false)
}

func TestStartOfPrograms(t *testing.T) {
	for args := range 5 {
		for locals := args; locals <= 8; locals++ {
			p := api.Program{Funcs: []api.Func{function(args, locals, one, ret), function(3, 3, one, ret)}}
			given := []int{least, greatest, -7, 12}[:args]
			want := make([]int, locals)
			copy(want, given)
			expectStart(t, p, given, 25, want)
		}
	}
	p := calling()
	for _, x := range []int{least, least + 1, -1, 0, 1, greatest - 1, greatest} {
		expectStart(t, p, []int{x}, 1, []int{x, 0})
	}
	none := api.Program{Funcs: []api.Func{function(0, 0, one, ret)}}
	expectStart(t, none, nil, 4, nil)
	expectStart(t, none, []int{}, 4, nil)
}

func TestStartOfFuel(t *testing.T) {
	p := calling()
	for _, fuel := range []int{0, 1, 50000, api.MaxFuel - 1, api.MaxFuel} {
		expectStart(t, p, []int{5}, fuel, []int{5, 0})
	}
	for _, fuel := range []int{math.MinInt, -modulus, -2, -1, api.MaxFuel + 1, modulus, modulus + 1, math.MaxInt} {
		expectNoStart(t, p, []int{5}, fuel)
	}
}

func TestStartOfArgs(t *testing.T) {
	for args := range 5 {
		p := api.Program{Funcs: []api.Func{function(args, 8, one, ret), function(0, 0, one, ret), function(4, 4, one, ret)}}
		for n := range 10 {
			if n == args {
				expectStart(t, p, make([]int, n), 7, make([]int, 8))
			} else {
				expectNoStart(t, p, make([]int, n), 7)
			}
		}
		for _, x := range noNumbers {
			for k := range args {
				given := make([]int, args)
				given[k] = x
				expectNoStart(t, p, given, 7)
			}
		}
	}
	expectNoStart(t, calling(), make([]int, 1000000), 7)
}

func TestStartOfProgramsThatAreNotVerified(t *testing.T) {
	for _, p := range faulty() {
		expectNoStart(t, p, []int{5}, 7)
	}
	for _, p := range []api.Program{{}, {Funcs: []api.Func{}}, {Funcs: make([]api.Func, 1)}, {Funcs: make([]api.Func, 9)}} {
		expectNoStart(t, p, nil, 7)
	}
	// The first function has no fault, the args are its own: the last one has.
	expectNoStart(t, api.Program{Funcs: []api.Func{function(0, 0, one, ret), function(0, 0, ret)}}, nil, 7)
}

func TestNothingHandedInIsChanged(t *testing.T) {
	p, s, args := calling(), running(), []int{5}
	widen := func(list *[]int) {
		*list = append(append(make([]int, 0, len(*list)+3), *list...), 91, 92, 93)[:len(*list)]
	}
	for k := range p.Funcs {
		f := &p.Funcs[k]
		f.Code = append(append(make([]api.Ins, 0, len(f.Code)+1), f.Code...), api.Ins{Kind: 99, A: 98})[:len(f.Code)]
	}
	for k := range s.Frames {
		widen(&s.Frames[k].Locals)
		widen(&s.Frames[k].Stack)
	}
	widen(&s.Out)
	widen(&args)
	frame.State(p, s)
	for _, f := range s.Frames {
		frame.May(p, f)
	}
	frame.Start(p, args, 5)
	frame.Start(p, args[:3], 5)

	for k, f := range p.Funcs {
		n := len(f.Code)
		if g := calling().Funcs[k]; f.Args != g.Args || f.Locals != g.Locals || !slices.Equal(f.Code, g.Code) || f.Code[:n+1][n] != (api.Ins{Kind: 99, A: 98}) {
			t.Errorf("R4: function %d, or its spare room, was changed: %v", k, f)
		}
	}
	expectWide(t, s.Out, running().Out)
	expectWide(t, args, []int{5})
	for k, f := range running().Frames {
		expectWide(t, s.Frames[k].Locals, f.Locals)
		expectWide(t, s.Frames[k].Stack, f.Stack)
		if s.Frames[k].Fn != f.Fn || s.Frames[k].Pc != f.Pc {
			t.Errorf("R4: frame %d was changed: %v", k, s.Frames[k])
		}
	}
}

// expectWide holds that neither the list nor what stands in its spare room was changed.
func expectWide(t *testing.T, list []int, want []int) {
	t.Helper()
	if got := list[:len(list)+3]; !slices.Equal(got, append(slices.Clone(want), 91, 92, 93)) {
		t.Errorf("R4: %v was changed: %v", want, got)
	}
}

func TestAnswersShareNothing(t *testing.T) {
	p := api.Program{Funcs: []api.Func{function(2, 2, one, ret)}}
	args := []int{5, 6, 7}[:2]
	first, _ := frame.Start(p, args, 9)
	second, _ := frame.Start(p, args, 9)
	f := &first.Frames[0]
	overwrite(f.Locals, 77)
	overwrite(f.Stack, 78)
	overwrite(first.Out, 79)
	if !slices.Equal(args[:3], []int{5, 6, 7}) {
		t.Errorf("R4: an answer shares memory with args: %v", args[:3])
	}
	if f.Locals[0] != 77 || f.Locals[1] != 77 {
		t.Errorf("R4: two lists of one answer share memory: %v", f.Locals)
	}
	f.Pc = 1
	if g := second.Frames[0]; g.Pc != 0 || !slices.Equal(g.Locals, []int{5, 6}) {
		t.Errorf("R4: two answers share memory: %v", second)
	}
	overwrite(args, 80)
	if !slices.Equal(second.Frames[0].Locals, []int{5, 6}) {
		t.Errorf("R4: args are kept: %v", second)
	}
}

// overwrite fills a list and its spare room.
func overwrite(list []int, x int) {
	list = list[:cap(list)]
	for k := range list {
		list[k] = x
	}
}

func TestSeveralGoroutines(t *testing.T) {
	var all sync.WaitGroup
	p, s := calling(), running()
	for range 8 {
		all.Go(func() {
			for range 100 {
				expectState(t, p, s, true)
				expectMay(t, p, s.Frames[2], true)
				expectStart(t, p, s.Frames[1].Locals, 7, []int{-1, 0})
			}
		})
	}
	all.Wait()
}

func expectMay(t *testing.T, p api.Program, f api.Frame, want bool) {
	t.Helper()
	if got := frame.May(p, f); got != want {
		t.Errorf("P6.1: May(%v, %v) is %v, want %v", brief(p), f, got, want)
	}
}

func expectState(t *testing.T, p api.Program, s api.State, want bool) {
	t.Helper()
	if got := frame.State(p, s); got != want {
		t.Errorf("P6.2: State(%v, %d frames, fuel %d, %d out, done %d, value %d) is %v, want %v",
			brief(p), len(s.Frames), s.Fuel, len(s.Out), s.Done, s.Value, got, want)
	}
}

// refuse holds that running, changed so, may not be.
func refuse(t *testing.T, change func(s *api.State)) {
	t.Helper()
	s := running()
	change(&s)
	expectState(t, calling(), s, false)
}

func expectStart(t *testing.T, p api.Program, args []int, fuel int, locals []int) {
	t.Helper()
	s, err := frame.Start(p, args, fuel)
	if err != api.OK || len(s.Frames) != 1 || s.Fuel != fuel || len(s.Out) != 0 || s.Done != api.OutNone || s.Value != 0 {
		t.Errorf("P6.3: Start(%v, %v, %d) is %v, %d", p, args, fuel, s, err)
		return
	}
	f := s.Frames[0]
	if f.Fn != 0 || f.Pc != 0 || !slices.Equal(f.Locals, locals) || len(f.Stack) != 0 {
		t.Errorf("P6.3: Start(%v, %v, %d) is %v, want locals %v", p, args, fuel, s, locals)
	}
	expectState(t, p, s, true)
	expectMay(t, p, f, true)
}

// expectNoStart holds that nothing but the error is told (R2).
func expectNoStart(t *testing.T, p api.Program, args []int, fuel int) {
	t.Helper()
	s, err := frame.Start(p, args, fuel)
	if err != api.ErrFrameForm || len(s.Frames) != 0 || s.Fuel != 0 || len(s.Out) != 0 || s.Done != 0 || s.Value != 0 {
		t.Errorf("P6.3: Start(%v, %d args, %d) is %v, %d, want none, %d", brief(p), len(args), fuel, s, err, api.ErrFrameForm)
	}
}

// brief leaves out what would fill the screen.
func brief(p api.Program) []api.Func {
	return p.Funcs[:min(len(p.Funcs), 9)]
}
