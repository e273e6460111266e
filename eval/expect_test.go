package eval_test

import (
	"slices"
	"testing"
	"unsafe"

	"swage/api"
	"swage/eval"
	"swage/frame"
	"swage/step"
)

func expectEval(t *testing.T, p api.Program, args []int, fuel int, want api.Result) {
	t.Helper()
	if got := evalOK(t, p, args, fuel); !same(got, want) {
		t.Errorf("P8.1: Eval(%v, %v, %d) is %v, want %v", p, args, fuel, got, want)
	}
}

// evalOK holds what is so of each Eval: something came of it, in memory of its
// own, and what was handed in is as it was.
func evalOK(t *testing.T, p api.Program, args []int, fuel int) api.Result {
	t.Helper()
	given := widened(args)
	got, err := eval.Eval(p, given, fuel)
	if err != api.OK || got.Done < api.OutValue || got.Done > api.OutFuel {
		t.Fatalf("P8.1: Eval(%v, %v, %d) is %v, %d", p, args, fuel, got, err)
	}
	if !slices.Equal(given, args) || !isWide(given) {
		t.Errorf("R4: Eval(%v, %v, %d) changed its arguments, or their spare room: %v", p, args, fuel, given)
	}
	again, _ := eval.Eval(p, given, fuel)
	if !areApart([]piece{pieceOf(given), pieceOf(got.Out), pieceOf(again.Out)}) {
		t.Errorf("R4: what Eval(%v, %v, %d) answers shares memory", p, args, fuel)
	}
	return got
}

func expectGo(t *testing.T, p api.Program, s api.State, want api.Result) {
	t.Helper()
	if got := goOK(t, p, s); !same(got, want) {
		t.Errorf("P8.2: Go(%v, %v) is %v, want %v", p, s, got, want)
	}
}

// goOK holds of each Go what evalOK holds of each Eval.
func goOK(t *testing.T, p api.Program, s api.State) api.Result {
	t.Helper()
	given := widenedState(s)
	got, err := eval.Go(p, given)
	if err != api.OK || got.Done < api.OutValue || got.Done > api.OutFuel {
		t.Fatalf("P8.2: Go(%v, %v) is %v, %d", p, s, got, err)
	}
	if !sameState(given, s) || !isWideState(given) {
		t.Errorf("R4: Go(%v, %v) changed what was handed in, or its spare room: %v", p, s, given)
	}
	again, _ := eval.Go(p, given)
	if !areApart(append(pieces(given), pieceOf(got.Out), pieceOf(again.Out))) {
		t.Errorf("R4: what Go(%v, %v) answers shares memory", p, s)
	}
	return got
}

// expectNoEval and expectNoGo hold that nothing but the error is told (R2).
func expectNoEval(t *testing.T, p api.Program, args []int, fuel int) {
	t.Helper()
	got, err := eval.Eval(p, args, fuel)
	if err != api.ErrEvalForm || !same(got, api.Result{}) {
		t.Errorf("P8.1: Eval(%d functions, %d arguments, fuel %d) is %v, %d, want none, %d",
			len(p.Funcs), len(args), fuel, got, err, api.ErrEvalForm)
	}
}

func expectNoGo(t *testing.T, p api.Program, s api.State) {
	t.Helper()
	got, err := eval.Go(p, s)
	if err != api.ErrEvalForm || !same(got, api.Result{}) {
		t.Errorf("P8.2: Go(%d functions, %d frames, fuel %d, done %d) is %v, %d, want none, %d",
			len(p.Funcs), len(s.Frames), s.Fuel, s.Done, got, err, api.ErrEvalForm)
	}
}

func start(t *testing.T, p api.Program, args []int, fuel int) api.State {
	t.Helper()
	s, err := frame.Start(p, args, fuel)
	if err != api.OK {
		t.Fatalf("Start(%v, %v, %d) is %d", p, args, fuel, err)
	}
	return s
}

// statesFrom are s and what comes of it by one step after another, to the end.
func statesFrom(t *testing.T, p api.Program, s api.State) []api.State {
	t.Helper()
	states := []api.State{s}
	for s.Done == api.OutNone {
		next, err := step.Step(p, s)
		if err != api.OK {
			t.Fatalf("Step(%v, %v) is %d", p, s, err)
		}
		s = next
		states = append(states, s)
	}
	return states
}

func resultOf(s api.State) api.Result {
	return api.Result{Done: s.Done, Value: s.Value, Out: s.Out, Fuel: s.Fuel}
}

func withFuel(x api.Result, fuel int) api.Result {
	x.Fuel = fuel
	return x
}

func isBeginning(list, of []int) bool {
	return len(list) <= len(of) && slices.Equal(list, of[:len(list)])
}

// same and sameState take an empty list and nil as one.
func same(a, b api.Result) bool {
	return a.Done == b.Done && a.Value == b.Value && a.Fuel == b.Fuel && slices.Equal(a.Out, b.Out)
}

func sameState(a, b api.State) bool {
	return same(resultOf(a), resultOf(b)) && slices.EqualFunc(a.Frames, b.Frames, func(f, g api.Frame) bool {
		return f.Fn == g.Fn && f.Pc == g.Pc && slices.Equal(f.Locals, g.Locals) && slices.Equal(f.Stack, g.Stack)
	})
}

// mapped is a state of its own, with each list of numbers changed so.
func mapped(s api.State, change func([]int) []int) api.State {
	s.Out = change(s.Out)
	s.Frames = slices.Clone(s.Frames)
	for k := range s.Frames {
		f := &s.Frames[k]
		f.Locals, f.Stack = change(f.Locals), change(f.Stack)
	}
	return s
}

// widened is a list of its own with spare room, and 91, 92 in it; widenedState
// has such lists, and a frame 93 in the room behind its frames.
func widened(list []int) []int {
	return append(append(make([]int, 0, len(list)+2), list...), 91, 92)[:len(list)]
}

func isWide(list []int) bool {
	return slices.Equal(list[len(list):len(list)+2], []int{91, 92})
}

func widenedState(s api.State) api.State {
	s = mapped(s, widened)
	n := len(s.Frames)
	s.Frames = append(append(make([]api.Frame, 0, n+1), s.Frames...), api.Frame{Fn: 93})[:n]
	return s
}

func isWideState(s api.State) bool {
	for _, f := range s.Frames {
		if !isWide(f.Locals) || !isWide(f.Stack) {
			return false
		}
	}
	spare := s.Frames[len(s.Frames) : len(s.Frames)+1][0]
	return isWide(s.Out) && spare.Fn == 93 && spare.Pc == 0 && spare.Locals == nil && spare.Stack == nil
}

// piece is the memory of a list, its spare room too.
type piece struct{ from, to uintptr }

func pieceOf[T any](list []T) piece {
	var item T
	from := uintptr(unsafe.Pointer(unsafe.SliceData(list)))
	return piece{from, from + uintptr(cap(list))*unsafe.Sizeof(item)}
}

func pieces(s api.State) []piece {
	all := []piece{pieceOf(s.Frames), pieceOf(s.Out)}
	for _, f := range s.Frames {
		all = append(all, pieceOf(f.Locals), pieceOf(f.Stack))
	}
	return all
}

func areApart(all []piece) bool {
	// Lists without room share nothing, wherever they are.
	all = slices.DeleteFunc(all, func(x piece) bool { return x.from == x.to })
	slices.SortFunc(all, func(x, y piece) int { return int(x.from) - int(y.from) })
	for k := 1; k < len(all); k++ {
		if all[k].from < all[k-1].to {
			return false
		}
	}
	return true
}
