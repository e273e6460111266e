package prof

import (
	"swage/api"
)

// countCall counts in place, as all here does; it needs as many args as r has.
func countCall(r *api.FuncProf, args []int) {
	countOne(&r.Calls)
	for k, x := range args {
		countArg(&r.Args[k], x)
	}
}

func countArg(a *api.ArgProf, x int) {
	// What was seen first is the one that all others are held against.
	if a.Same == 0 && a.Other == 0 {
		a.Value = x
	}
	if a.Value == x {
		countOne(&a.Same)
	} else {
		countOne(&a.Other)
	}
}

func countBranch(r *api.FuncProf, pc int, jumps bool) {
	if jumps {
		countOne(&r.Jumps[pc])
	} else {
		countOne(&r.Falls[pc])
	}
}

func countOne(n *int) {
	if *n < api.MaxCount {
		*n++
	}
}
