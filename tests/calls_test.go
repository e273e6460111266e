package tests

import (
	"testing"

	"swage/calls"
)

func TestCallsOfEachPc(t *testing.T) {
	table, ok := calls.Of(calling())
	if !ok {
		t.Fatal("calling is verified")
	}
	heights, called := callingHeights(), callingCalled()
	for fn := -1; fn <= len(heights); fn++ {
		for pc := -1; pc < 10; pc++ {
			isThere := fn >= 0 && fn < len(heights) && pc >= 0 && pc < len(heights[fn])
			want, isReached := 0, isThere && heights[fn][pc] != unreached
			if isReached {
				want = heights[fn][pc]
			}
			if got, ok := table.Height(fn, pc); got != want || ok != isReached {
				t.Errorf("Height(%d, %d) is %d, %v", fn, pc, got, ok)
			}
			for callee := range 9 {
				want := isThere && called[fn][pc] == callee
				if table.IsCall(fn, pc-1, callee) != want {
					t.Errorf("IsCall(%d, %d, %d) isn't %v", fn, pc-1, callee, want)
				}
			}
		}
	}
}

func TestCallsOfProgramsThatAreNotVerified(t *testing.T) {
	for _, p := range notVerified() {
		if table, ok := calls.Of(p); ok || table.IsFunc(0) {
			t.Errorf("a table of %d functions that may not run", len(p.Funcs))
		}
	}
}
