package tests

import (
	"math"
	"slices"
	"strconv"
	"strings"

	"swage/api"
)

const (
	least    = -2147483648
	greatest = 2147483647
	modulus  = 4294967296
)

var noNumbers = [...]int{least - 1, greatest + 1, modulus, -modulus, modulus + 1, math.MinInt, math.MaxInt}

// kindLetters has each kind's letter, by the kind.
const kindLetters = "cls+-*/%=<dxjzfpr"

// function reads code: a letter of each instruction, and its A behind it.
func function(args, locals int, text string) api.Func {
	f := api.Func{Args: args, Locals: locals}
	for _, word := range strings.Fields(text) {
		i := api.Ins{Kind: strings.IndexByte(kindLetters, word[0])}
		if len(word) > 1 {
			a, err := strconv.Atoi(word[1:])
			if err != nil {
				panic(word)
			}
			i.A = a
		}
		f.Code = append(f.Code, i)
	}
	return f
}

func program(funcs ...api.Func) api.Program { return api.Program{Funcs: funcs} }

// unreached is what height says of a pc that nothing leads to.
const unreached = -1

// calling is a program whose functions call one another, and have calls that
// are not reached ahead of pcs that are. The last two are called nowhere.
func calling() api.Program {
	return program(
		function(1, 2, "c1 l0 f1 + f2 d x r"),
		function(1, 1, "c1 j3 f2 f0 r c1"),
		function(1, 3, "c1 c1 f1 f2 j6 f1 + r f0"),
		function(0, 0, "c1 r"),
		function(4, 8, "c1 r"),
	)
}

// callingHeights tells of calling, by hand, how many stand ahead of a pc.
func callingHeights() [][]int {
	return [][]int{
		{0, 1, 2, 2, 1, 1, 2, 1},
		{0, 1, unreached, 1, 1, unreached},
		{0, 1, 2, 2, 2, unreached, 2, 1, unreached},
		{0, 1},
		{0, 1},
	}
}

// callingCalled tells of calling, by hand, of which function the reached call
// right ahead of a pc is; -1: there is none.
func callingCalled() [][]int {
	return [][]int{
		{-1, -1, -1, 1, -1, 2, -1, -1},
		{-1, -1, -1, -1, 0, -1},
		{-1, -1, -1, 1, 2, -1, -1, -1, -1},
		{-1, -1},
		{-1, -1},
	}
}

// notVerified are programs that may not run, but part from calling in one thing alone.
func notVerified() []api.Program {
	turn := func(change func(p *api.Program)) api.Program {
		p := calling()
		change(&p)
		return p
	}
	none := function(0, 0, "c1 r")
	return []api.Program{
		turn(func(p *api.Program) { p.Funcs[2].Locals = 9 }),
		turn(func(p *api.Program) { p.Funcs[2].Code[8].A = 8 }),
		turn(func(p *api.Program) { p.Funcs[2].Code[3].A = 5 }),
		turn(func(p *api.Program) { p.Funcs[2].Code[4] = api.Ins{Kind: api.InsDrop} }),
		turn(func(p *api.Program) { p.Funcs[2].Code = p.Funcs[2].Code[:7] }),
		turn(func(p *api.Program) { p.Funcs[0].Code[5] = api.Ins{Kind: api.InsAdd} }),
		turn(func(p *api.Program) { p.Funcs = append(p.Funcs, function(0, 0, "")) }),
		turn(func(p *api.Program) { p.Funcs = append(p.Funcs, function(0, 0, "r")) }),
		turn(func(p *api.Program) { p.Funcs = append(p.Funcs, function(0, 0, "c1")) }),
		turn(func(p *api.Program) { p.Funcs = append(p.Funcs, none, none, none, none) }),
		turn(func(p *api.Program) { p.Funcs = slices.Repeat(p.Funcs, 2000) }),
		{},
		{Funcs: []api.Func{}},
		{Funcs: make([]api.Func, 1)},
	}
}
