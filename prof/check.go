package prof

import (
	"slices"

	"swage/api"
	"swage/number"
)

// isOf tells whether r has what each function of p asks for, and counts alone in it.
func isOf(p api.Program, r api.Prof) bool {
	return slices.EqualFunc(p.Funcs, r.Funcs, isOfFunc)
}

func isOfFunc(f api.Func, r api.FuncProf) bool {
	return isCount(r.Calls) && areCounts(r.Jumps, len(f.Code)) && areCounts(r.Falls, len(f.Code)) &&
		areArgs(r.Args, f.Args)
}

func areCounts(list []int, many int) bool {
	return len(list) == many && !slices.ContainsFunc(list, func(n int) bool { return !isCount(n) })
}

func areArgs(list []api.ArgProf, many int) bool {
	return len(list) == many && !slices.ContainsFunc(list, func(a api.ArgProf) bool {
		return !number.Is(a.Value) || !isCount(a.Same) || !isCount(a.Other)
	})
}

func isCount(n int) bool {
	return n >= 0 && n <= api.MaxCount
}

func isCall(p api.Program, fn int, args []int) bool {
	return isFunc(p, fn) && len(args) == p.Funcs[fn].Args && number.Are(args)
}

// isBranch asks nothing of whether pc is reached.
func isBranch(p api.Program, fn int, pc int) bool {
	if !isFunc(p, fn) || pc < 0 || pc >= len(p.Funcs[fn].Code) {
		return false
	}
	return p.Funcs[fn].Code[pc].Kind == api.InsZero
}

func isFunc(p api.Program, fn int) bool {
	return fn >= 0 && fn < len(p.Funcs)
}
