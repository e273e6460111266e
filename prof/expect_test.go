package prof_test

import (
	"slices"
	"testing"
	"unsafe"

	"swage/api"
	"swage/prof"
)

// expectCalled holds that just what change does to r comes of a call.
func expectCalled(t *testing.T, p api.Program, r api.Prof, fn int, args []int, change func(f *api.FuncProf)) {
	t.Helper()
	want := clone(r)
	change(&want.Funcs[fn])
	if got := calledOK(t, p, r, fn, args); !same(got, want) {
		t.Errorf("P9.2: Called(%v, %d, %v) is %v, want %v", r, fn, args, got, want)
	}
}

// calledOK holds what is so of each call: a profile that may be comes of it, in
// memory of its own, and what was handed in is as it was.
func calledOK(t *testing.T, p api.Program, r api.Prof, fn int, args []int) api.Prof {
	t.Helper()
	givenProgram, given, givenArgs := widenedProgram(p), widened(r), wide(args, 91)
	got, err := prof.Called(givenProgram, given, fn, givenArgs)
	if err != api.OK || !prof.May(p, got) {
		t.Fatalf("P9.2: Called(%v, %d, %v) is %v, %d", r, fn, args, got, err)
	}
	if !slices.Equal(givenArgs, args) || !isWide(givenArgs, 91) {
		t.Errorf("R4: Called(%v, %d, %v) changed the arguments: %v", r, fn, args, givenArgs)
	}
	expectUnchanged(t, givenProgram, given, p, r)
	again, _ := prof.Called(givenProgram, given, fn, givenArgs)
	expectApart(t, slices.Concat(pieces(given), pieces(got), pieces(again), []piece{pieceOf(givenArgs)}))
	return got
}

// expectBranched holds that just what change does to r comes of a branch.
func expectBranched(t *testing.T, p api.Program, r api.Prof, fn, pc int, jumps bool, change func(f *api.FuncProf)) {
	t.Helper()
	want := clone(r)
	change(&want.Funcs[fn])
	if got := branchedOK(t, p, r, fn, pc, jumps); !same(got, want) {
		t.Errorf("P9.3: Branched(%v, %d, %d, %v) is %v, want %v", r, fn, pc, jumps, got, want)
	}
}

// branchedOK holds of each branch what calledOK holds of each call.
func branchedOK(t *testing.T, p api.Program, r api.Prof, fn, pc int, jumps bool) api.Prof {
	t.Helper()
	givenProgram, given := widenedProgram(p), widened(r)
	got, err := prof.Branched(givenProgram, given, fn, pc, jumps)
	if err != api.OK || !prof.May(p, got) {
		t.Fatalf("P9.3: Branched(%v, %d, %d, %v) is %v, %d", r, fn, pc, jumps, got, err)
	}
	expectUnchanged(t, givenProgram, given, p, r)
	again, _ := prof.Branched(givenProgram, given, fn, pc, jumps)
	expectApart(t, slices.Concat(pieces(given), pieces(got), pieces(again)))
	return got
}

// newOK holds of each New what calledOK holds of each call.
func newOK(t *testing.T, p api.Program) api.Prof {
	t.Helper()
	given := widenedProgram(p)
	got, err := prof.New(given)
	if err != api.OK || !prof.May(p, got) {
		t.Fatalf("P9.1: New(%v) is %v, %d", p, got, err)
	}
	expectUnchanged(t, given, api.Prof{}, p, api.Prof{})
	again, _ := prof.New(given)
	expectApart(t, append(pieces(got), pieces(again)...))
	return got
}

// expectMay holds that nothing is changed by asking, either.
func expectMay(t *testing.T, p api.Program, r api.Prof, want bool) {
	t.Helper()
	givenProgram, given := widenedProgram(p), widened(r)
	if got := prof.May(givenProgram, given); got != want {
		t.Errorf("P9.1: May(%d functions, %d profiles) is %v, want %v: %v", len(p.Funcs), len(r.Funcs), got, want, briefly(r))
	}
	expectUnchanged(t, givenProgram, given, p, r)
}

// expectNoNew, expectNotCalled and expectNotBranched hold that nothing but the
// error is told (R2).
func expectNoNew(t *testing.T, p api.Program) {
	t.Helper()
	if got, err := prof.New(p); err != api.ErrProfForm || len(got.Funcs) != 0 {
		t.Errorf("P9.1: New(%d functions) is %v, %d", len(p.Funcs), briefly(got), err)
	}
}

func expectNotCalled(t *testing.T, p api.Program, r api.Prof, fn int, args []int) {
	t.Helper()
	if got, err := prof.Called(p, r, fn, args); err != api.ErrProfForm || len(got.Funcs) != 0 {
		t.Errorf("P9.2: Called(%v, %d, %d arguments) is %v, %d", briefly(r), fn, len(args), got, err)
	}
}

func expectNotBranched(t *testing.T, p api.Program, r api.Prof, fn, pc int) {
	t.Helper()
	for _, jumps := range []bool{false, true} {
		if got, err := prof.Branched(p, r, fn, pc, jumps); err != api.ErrProfForm || len(got.Funcs) != 0 {
			t.Errorf("P9.3: Branched(%v, %d, %d, %v) is %v, %d", briefly(r), fn, pc, jumps, got, err)
		}
	}
}

// expectNone holds that r is no profile of p, whoever is asked.
func expectNone(t *testing.T, p api.Program, r api.Prof) {
	t.Helper()
	expectMay(t, p, r, false)
	expectNotCalled(t, p, r, 0, []int{1, 2})
	expectNotCalled(t, p, r, 1, nil)
	expectNotBranched(t, p, r, 0, 1)
}

// briefly leaves out what would fill the screen.
func briefly(r api.Prof) []api.FuncProf {
	return r.Funcs[:min(len(r.Funcs), 9)]
}

// expectUnchanged holds what widenedProgram and widened gave against what it was made of.
func expectUnchanged(t *testing.T, givenProgram api.Program, given api.Prof, p api.Program, r api.Prof) {
	t.Helper()
	if !sameProgram(givenProgram, p) || !isWideProgram(givenProgram) {
		t.Errorf("R4: the program that was handed in, or its spare room, is changed: %v", givenProgram)
	}
	if !same(given, r) || !isWideProf(given) {
		t.Errorf("R4: the profile that was handed in, or its spare room, is changed: %v", given)
	}
}

// same takes an empty list and nil as one.
func same(a, b api.Prof) bool {
	return slices.EqualFunc(a.Funcs, b.Funcs, func(f, g api.FuncProf) bool {
		return f.Calls == g.Calls && slices.Equal(f.Jumps, g.Jumps) && slices.Equal(f.Falls, g.Falls) &&
			slices.Equal(f.Args, g.Args)
	})
}

func sameProgram(a, b api.Program) bool {
	return slices.EqualFunc(a.Funcs, b.Funcs, func(f, g api.Func) bool {
		return f.Args == g.Args && f.Locals == g.Locals && slices.Equal(f.Code, g.Code)
	})
}

func clone(r api.Prof) api.Prof {
	r.Funcs = slices.Clone(r.Funcs)
	for fn := range r.Funcs {
		f := &r.Funcs[fn]
		f.Jumps, f.Falls, f.Args = slices.Clone(f.Jumps), slices.Clone(f.Falls), slices.Clone(f.Args)
	}
	return r
}

// wide is a list of its own, with spare room for one more, in which x is.
func wide[T any](list []T, x T) []T {
	return append(append(make([]T, 0, len(list)+1), list...), x)[:len(list)]
}

func isWide[T comparable](list []T, x T) bool {
	n := len(list)
	return list[: n+1 : n+1][n] == x
}

var spareArg = api.ArgProf{Value: 94, Same: 95, Other: 96}

func widened(r api.Prof) api.Prof {
	r.Funcs = wide(r.Funcs, api.FuncProf{Calls: 93})
	for fn := range r.Funcs {
		f := &r.Funcs[fn]
		f.Jumps, f.Falls, f.Args = wide(f.Jumps, 91), wide(f.Falls, 92), wide(f.Args, spareArg)
	}
	return r
}

func isWideProf(r api.Prof) bool {
	for _, f := range r.Funcs {
		if !isWide(f.Jumps, 91) || !isWide(f.Falls, 92) || !isWide(f.Args, spareArg) {
			return false
		}
	}
	// What was handed in without a list has no spare room.
	if cap(r.Funcs) == 0 {
		return true
	}
	spare := r.Funcs[:len(r.Funcs)+1][len(r.Funcs)]
	return spare.Calls == 93 && spare.Jumps == nil && spare.Falls == nil && spare.Args == nil
}

var spareIns = api.Ins{Kind: 97, A: 98}

func widenedProgram(p api.Program) api.Program {
	p.Funcs = wide(p.Funcs, api.Func{Args: 99})
	for fn := range p.Funcs {
		p.Funcs[fn].Code = wide(p.Funcs[fn].Code, spareIns)
	}
	return p
}

func isWideProgram(p api.Program) bool {
	for _, f := range p.Funcs {
		if !isWide(f.Code, spareIns) {
			return false
		}
	}
	spare := p.Funcs[:len(p.Funcs)+1][len(p.Funcs)]
	return spare.Args == 99 && spare.Locals == 0 && spare.Code == nil
}

// piece is the memory of a list, its spare room too.
type piece struct{ from, to uintptr }

func pieceOf[T any](list []T) piece {
	var item T
	from := uintptr(unsafe.Pointer(unsafe.SliceData(list)))
	return piece{from, from + uintptr(cap(list))*unsafe.Sizeof(item)}
}

func pieces(r api.Prof) []piece {
	all := []piece{pieceOf(r.Funcs)}
	for _, f := range r.Funcs {
		all = append(all, pieceOf(f.Jumps), pieceOf(f.Falls), pieceOf(f.Args))
	}
	return all
}

// expectApart holds that no two of these lists share memory.
func expectApart(t *testing.T, all []piece) {
	t.Helper()
	// Lists without room share nothing, wherever they are.
	all = slices.DeleteFunc(all, func(x piece) bool { return x.from == x.to })
	slices.SortFunc(all, func(x, y piece) int { return int(x.from) - int(y.from) })
	for k := 1; k < len(all); k++ {
		if all[k].from < all[k-1].to {
			t.Errorf("R4: lists share memory")
		}
	}
}
