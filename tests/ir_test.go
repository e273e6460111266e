package tests

import (
	"math"
	"slices"
	"sync"
	"testing"

	"swage/api"
	"swage/ir"
)

// irKinds is the table of chapter 10, by kind: what stands in R, A, B, K, Args
// and Meta. ("": only 0.)
var irKinds = [...]struct{ r, a, b, k, args, meta string }{
	api.IrNop:   {},
	api.IrConst: {r: "register", k: "number"},
	api.IrMove:  {r: "register", a: "register"},
	api.IrBin:   {r: "register", a: "register", b: "register", k: "operation"},
	api.IrJump:  {k: "place"},
	api.IrZero:  {a: "register", k: "place"},
	api.IrCall:  {r: "register", k: "function", args: "registers"},
	api.IrPrint: {a: "register"},
	api.IrRet:   {a: "register"},
	api.IrGuard: {a: "register", b: "turn", k: "number", meta: "meta"},
	api.IrPoll:  {meta: "meta"},
	api.IrDeep:  {},
}

const goodRegs, goodPlaces, goodMetas = 6, 20, 3

// isGood tells what good() lets stand in a field.
func isGood(what string, x int) bool {
	most := map[string]int{
		"register": goodRegs - 1, "place": goodPlaces - 1, "meta": goodMetas - 1,
		"operation": api.InsLt, "function": 4, "turn": 1, "number": greatest,
	}[what]
	low := map[string]int{"operation": api.InsAdd, "number": least}[what]
	return x >= low && x <= most
}

// values are those of which some may stand in a field, some not.
var values = slices.Concat(noNumbers[:], []int{least, -257, -65, -2, -1, 0, 1, 2, 3, 4, 5, 6, 7, 8, 9, 10, 11, 12, 16,
	19, 20, 21, 63, 64, 65, 255, 256, 257, greatest})

func reg(v int) api.Src { return api.Src{V: v} }

func num(v int) api.Src { return api.Src{Const: true, V: v} }

// good is code of calling's function 0, with instructions of all kinds,
// and metas of one part and of two.
func good() api.Code {
	kinds := []api.Ir{
		{Kind: api.IrNop},
		{Kind: api.IrConst, R: 5, K: least},
		{Kind: api.IrMove, R: 1, A: 5, Cost: 3, Pc: 63},
		{Kind: api.IrBin, R: 4, A: 3, B: 2, K: api.InsLt},
		{Kind: api.IrZero, A: 4, K: 5},
		{Kind: api.IrCall, R: 2, K: 1, Args: []int{3}, Cost: 1},
		{Kind: api.IrPrint, A: 5, Cost: 1},
		{Kind: api.IrGuard, A: 1, B: 1, K: 9, Meta: 1},
		{Kind: api.IrPoll, Meta: 2},
		{Kind: api.IrDeep, Cost: api.MaxIr},
	}
	return api.Code{
		Fn:   0,
		Regs: goodRegs,
		Code: slices.Concat(kinds, kinds[:4], kinds[6:], []api.Ir{{Kind: api.IrJump, Cost: 1}, {Kind: api.IrRet, A: 5}}),
		Metas: []api.Meta{
			{Parts: []api.Part{{Fn: 0, Pc: 2, Locals: []api.Src{reg(0), num(least)}, Stack: []api.Src{reg(5), num(0)}}}},
			{Parts: []api.Part{
				{Fn: 0, Pc: 3, Locals: []api.Src{reg(0), reg(0)}, Stack: []api.Src{num(7)}},
				{Fn: 1, Pc: 3, Locals: []api.Src{num(greatest)}, Stack: []api.Src{reg(1)}},
			}},
			{Parts: []api.Part{
				{Fn: 0, Pc: 5, Locals: []api.Src{reg(0), reg(1)}},
				{Fn: 2, Pc: 0, Locals: []api.Src{reg(1), reg(2), reg(3)}, Stack: []api.Src{}},
			}},
		},
	}
}

func expectMay(t *testing.T, p api.Program, c api.Code, want bool) {
	t.Helper()
	givenProgram, given := widened(p), widened(c)
	if got := ir.May(givenProgram, given); got != want {
		t.Errorf("P10.1: May(%d functions, %v) is %v, want %v", len(p.Funcs), briefly(c), got, want)
	}
	expectUnchanged(t, givenProgram, p)
	expectUnchanged(t, given, c)
}

// briefly leaves out what would fill the screen.
func briefly(c api.Code) api.Code {
	c.Code = c.Code[:min(len(c.Code), 20)]
	c.Metas = c.Metas[:min(len(c.Metas), 3)]
	return c
}

// expectTurned holds a changed good() against what May is to tell of it.
func expectTurned(t *testing.T, want bool, change func(c *api.Code)) {
	t.Helper()
	c := good()
	for at := range c.Code {
		c.Code[at].Args = slices.Clone(c.Code[at].Args)
	}
	change(&c)
	expectMay(t, calling(), c, want)
}

// ret is code of nothing but an IrRet, and so many IrNops ahead of it.
func ret(fn, regs, nops int) api.Code {
	return api.Code{Fn: fn, Regs: regs, Code: append(make([]api.Ir, nops), api.Ir{Kind: api.IrRet})}
}

func TestIrMayOfGoodCode(t *testing.T) {
	expectTurned(t, true, func(*api.Code) {})
	expectMay(t, calling(), ret(0, 2, 0), true)
	expectMay(t, calling(), api.Code{Fn: 3, Regs: 1, Code: []api.Ir{{Kind: api.IrJump, Cost: 1}}}, true)
}

func TestIrMayOfProgramsThatAreNotVerified(t *testing.T) {
	for _, p := range notVerified() {
		expectMay(t, p, good(), false)
		expectMay(t, p, ret(0, 2, 0), false)
	}
	expectMay(t, api.Program{}, api.Code{}, false)
}

func TestIrMayOfFunctionsAndRegisters(t *testing.T) {
	locals := []int{2, 1, 3, 0, 8}
	for fn, n := range locals {
		for _, regs := range values {
			expectMay(t, calling(), ret(fn, regs, 0), regs >= max(n, 1) && regs <= 64)
		}
	}
	for _, fn := range values {
		expectMay(t, calling(), ret(fn, 8, 0), fn >= 0 && fn < len(locals))
	}
	// Function 1 has one local, and so all of good()'s metas are another's.
	expectTurned(t, false, func(c *api.Code) { c.Fn = 1 })
	expectTurned(t, true, func(c *api.Code) { c.Fn, c.Metas, c.Code = 1, nil, c.Code[:7]; c.Code[6].Kind = api.IrRet })
	// What stands at 5 is read and set.
	expectTurned(t, false, func(c *api.Code) { c.Regs = 5 })
	expectTurned(t, true, func(c *api.Code) { c.Regs = 7 })
}

func TestIrMayOfSizes(t *testing.T) {
	expectMay(t, calling(), api.Code{Regs: 2}, false)
	expectMay(t, calling(), api.Code{Regs: 2, Code: []api.Ir{}}, false)
	for _, nops := range []int{0, 1, 63, 64, 254, 255, 256, 257, 10000} {
		expectMay(t, calling(), ret(0, 2, nops), nops <= 255)
	}
	for _, n := range []int{0, 1, 63, 64, 65, 10000} {
		metas := slices.Repeat(good().Metas[:1], n)
		expectMay(t, calling(), api.Code{Regs: 6, Code: ret(0, 6, 0).Code, Metas: metas}, n <= 64)
		if n > 0 {
			// The last one counts as the others do.
			last := api.Code{Regs: 6, Code: ret(0, 6, 1).Code, Metas: metas}
			last.Code[0] = api.Ir{Kind: api.IrPoll, Meta: n - 1}
			expectMay(t, calling(), last, n <= 64)
			last.Code[0].Meta = n
			expectMay(t, calling(), last, false)
			metas[n-1] = api.Meta{}
			expectMay(t, calling(), last, false)
		}
	}
}

// TestIrMayOfFields puts each value into each field of each kind's instruction.
func TestIrMayOfFields(t *testing.T) {
	seen := 0
	for at, i := range good().Code {
		of := irKinds[i.Kind]
		seen |= 1 << i.Kind
		for _, x := range values {
			turn := func(want bool, field func(i *api.Ir) *int) {
				t.Helper()
				expectTurned(t, want, func(c *api.Code) {
					// What costs may go back.
					c.Code[at].Cost = 1
					*field(&c.Code[at]) = x
				})
			}
			turn(isGood(of.r, x), func(i *api.Ir) *int { return &i.R })
			turn(isGood(of.a, x), func(i *api.Ir) *int { return &i.A })
			turn(isGood(of.b, x), func(i *api.Ir) *int { return &i.B })
			turn(isGood(of.meta, x), func(i *api.Ir) *int { return &i.Meta })
			turn(x >= 0 && x < 64, func(i *api.Ir) *int { return &i.Pc })
			if i.Kind != api.IrCall {
				turn(isGood(of.k, x), func(i *api.Ir) *int { return &i.K })
				turn(x >= 0 && x <= 256 && (i.Kind != api.IrPrint || x > 0) && (i.Kind != api.IrJump || x > 0),
					func(i *api.Ir) *int { return &i.Cost })
			}
		}
		if of.args == "" {
			expectTurned(t, false, func(c *api.Code) { c.Code[at].Args = []int{0} })
			expectTurned(t, false, func(c *api.Code) { c.Code[at].Args = make([]int, 5) })
			expectTurned(t, true, func(c *api.Code) { c.Code[at].Args = []int{} })
		}
	}
	if seen != 1<<12-1 {
		t.Errorf("not all kinds are asked for: %b", seen)
	}
}

func TestIrMayOfKinds(t *testing.T) {
	for _, kind := range []int{math.MinInt, -modulus, -12, -2, -1, 12, 13, 16, 64, modulus, modulus + 1, math.MaxInt} {
		expectTurned(t, false, func(c *api.Code) { c.Code[0].Kind = kind })
		expectTurned(t, false, func(c *api.Code) { c.Code[19].Kind = kind })
	}
}

func TestIrMayOfOperations(t *testing.T) {
	for _, k := range values {
		expectTurned(t, k >= api.InsAdd && k <= api.InsLt, func(c *api.Code) { c.Code[3].K = k })
	}
}

func TestIrMayOfTheLastOne(t *testing.T) {
	for at, i := range good().Code {
		want := i.Kind == api.IrRet || i.Kind == api.IrJump
		// It may go to itself, where it costs.
		i.Cost = 1
		expectTurned(t, want, func(c *api.Code) { c.Code[19] = i })
		expectTurned(t, want || at == 19, func(c *api.Code) { c.Code = append(c.Code, i) })
	}
}

func TestIrMayOfJumpsThatGoBack(t *testing.T) {
	for _, kind := range []int{api.IrJump, api.IrZero} {
		for at := range goodPlaces {
			for k := -1; k <= goodPlaces; k++ {
				for cost := range 3 {
					want := k >= 0 && k < goodPlaces && (k > at || cost > 0) && (at < 19 || kind == api.IrJump)
					expectTurned(t, want, func(c *api.Code) {
						c.Code[at] = api.Ir{Kind: kind, K: k, Cost: cost}
					})
				}
			}
		}
	}
}

func TestIrMayOfCalls(t *testing.T) {
	args := []int{1, 1, 1, 0, 4}
	for _, at := range []int{0, 5, 18} {
		for _, k := range values {
			for n := range 7 {
				want := k >= 0 && k < len(args) && n == args[k]
				for _, cost := range values {
					if cost == 1 || n == 1 {
						expectTurned(t, want && cost >= 1 && cost <= 256, func(c *api.Code) {
							c.Code[at] = api.Ir{Kind: api.IrCall, R: 5, K: k, Args: make([]int, n), Cost: cost}
						})
					}
				}
			}
		}
	}
	for place := range 4 {
		for _, x := range values {
			expectTurned(t, x >= 0 && x < goodRegs, func(c *api.Code) {
				c.Code[1] = api.Ir{Kind: api.IrCall, K: 4, Args: []int{5, 0, 5, 0}, Cost: 1}
				c.Code[1].Args[place] = x
			})
		}
	}
	expectTurned(t, false, func(c *api.Code) { c.Code[5].Args = make([]int, 10000) })
}

func TestIrMayOfHowManyParts(t *testing.T) {
	for at := range goodMetas {
		expectTurned(t, false, func(c *api.Code) { c.Metas[at] = api.Meta{} })
		expectTurned(t, false, func(c *api.Code) { c.Metas[at].Parts = []api.Part{} })
		for n := 3; n < 6; n++ {
			expectTurned(t, false, func(c *api.Code) {
				for len(c.Metas[at].Parts) < n {
					c.Metas[at].Parts = append(c.Metas[at].Parts, c.Metas[1].Parts[1])
				}
			})
		}
	}
	// Three calls that would wait for one another.
	expectTurned(t, false, func(c *api.Code) {
		c.Metas[0].Parts = []api.Part{c.Metas[1].Parts[0],
			{Fn: 1, Pc: 4, Locals: []api.Src{reg(0)}}, {Fn: 0, Pc: 0, Locals: []api.Src{reg(0), reg(0)}}}
	})
	// What waits alone, and what runs alone but is another's.
	expectTurned(t, false, func(c *api.Code) { c.Metas[1].Parts = c.Metas[1].Parts[:1] })
	expectTurned(t, false, func(c *api.Code) { c.Metas[1].Parts = c.Metas[1].Parts[1:] })
}

func part(fn, pc, locals, stack int) api.Part {
	return api.Part{Fn: fn, Pc: pc, Locals: make([]api.Src, locals), Stack: make([]api.Src, stack)}
}

func TestIrMayOfOnePart(t *testing.T) {
	heights := callingHeights()
	locals := []int{2, 1, 3, 0, 8}
	for of := range heights {
		code := ret(of, 8, 0)
		for fn := -1; fn <= len(heights); fn++ {
			for _, pc := range []int{math.MinInt, -1, 0, 1, 2, 3, 4, 5, 6, 7, 8, 9, 63, 64, modulus, math.MaxInt} {
				for n := range 10 {
					for high := range 10 {
						want := fn == of && pc >= 0 && pc < len(heights[fn]) && heights[fn][pc] == high && locals[fn] == n
						if want || fn != of || n == locals[of] || high < 3 {
							code.Metas = []api.Meta{{Parts: []api.Part{part(fn, pc, n, high)}}}
							expectMayQuickly(t, code, want)
						}
					}
				}
			}
		}
	}
	huge := []api.Meta{{Parts: []api.Part{part(0, 1, 2, 1)}}, {Parts: []api.Part{part(0, 1, 10000, 1)}},
		{Parts: []api.Part{part(0, 1, 2, 10000)}}, {Parts: make([]api.Part, 10000)}}
	for k := range huge {
		expectMay(t, calling(), api.Code{Regs: 8, Code: ret(0, 8, 0).Code, Metas: huge[k : k+1]}, k == 0)
	}
}

// expectMayQuickly leaves out what expectMay holds beside the answer.
func expectMayQuickly(t *testing.T, c api.Code, want bool) {
	t.Helper()
	if ir.May(calling(), c) != want {
		t.Errorf("P10.1: May(%v) isn't %v", c, want)
	}
}

func TestIrMayOfTwoParts(t *testing.T) {
	heights, called := callingHeights(), callingCalled()
	locals := []int{2, 1, 3, 0, 8}
	for of := range heights {
		code := ret(of, 8, 0)
		for fn := range 3 {
			for pc := -1; pc <= len(heights[fn]); pc++ {
				for high := range 4 {
					for callee := -1; callee <= len(heights); callee++ {
						want := fn == of && pc >= 0 && pc < len(heights[fn]) && callee >= 0 && callee < len(heights) &&
							heights[fn][pc] == high+1 && called[fn][pc] == callee
						on := 0
						if callee >= 0 && callee < len(locals) {
							on = locals[callee]
						}
						code.Metas = []api.Meta{{Parts: []api.Part{part(fn, pc, locals[fn], high), part(callee, 0, on, 0)}}}
						expectMayQuickly(t, code, want)
						code.Metas[0].Parts[0].Locals = make([]api.Src, locals[fn]+1)
						expectMayQuickly(t, code, false)
						code.Metas[0].Parts[0].Locals = make([]api.Src, locals[fn]-1)
						expectMayQuickly(t, code, false)
					}
				}
			}
		}
	}
}

// TestIrMayOfTheSecondPart has a first one that waits for function 2.
func TestIrMayOfTheSecondPart(t *testing.T) {
	heights := callingHeights()[2]
	for pc := -2; pc <= len(heights)+1; pc++ {
		for n := range 5 {
			for high := range 5 {
				want := pc >= 0 && pc < len(heights) && heights[pc] == high && n == 3
				expectTurned(t, want, func(c *api.Code) { c.Metas[2].Parts[1] = part(2, pc, n, high) })
			}
		}
	}
	expectTurned(t, false, func(c *api.Code) { c.Metas[2].Parts[1] = part(1, 0, 1, 0) })
	expectTurned(t, false, func(c *api.Code) { c.Metas[2].Parts[1] = part(0, 0, 2, 0) })
}

func TestIrMayOfSrcs(t *testing.T) {
	each := func(change func(s *api.Src), want bool) {
		t.Helper()
		for meta, m := range good().Metas {
			for of, p := range m.Parts {
				for k := range p.Locals {
					expectTurned(t, want, func(c *api.Code) { change(&c.Metas[meta].Parts[of].Locals[k]) })
				}
				for k := range p.Stack {
					expectTurned(t, want, func(c *api.Code) { change(&c.Metas[meta].Parts[of].Stack[k]) })
				}
			}
		}
	}
	for _, x := range values {
		each(func(s *api.Src) { *s = num(x) }, x >= least && x <= greatest)
		each(func(s *api.Src) { *s = reg(x) }, x >= 0 && x < goodRegs)
	}
}

func expectLeaders(t *testing.T, c api.Code, want ...bool) {
	t.Helper()
	given := widened(c)
	got := ir.Leaders(given)
	if !slices.Equal(got, want) {
		t.Errorf("P10.2: Leaders(%v) is %v, want %v", c, got, want)
	}
	expectUnchanged(t, given, c)
	expectApart(t, given, got, ir.Leaders(given))
}

func TestIrLeadersBehindEachKind(t *testing.T) {
	for kind := -1; kind <= 12; kind++ {
		i := api.Ir{Kind: kind, K: 1, A: 3, B: 3, R: 3, Meta: 3, Pc: 3, Cost: 3, Args: []int{3}}
		goes := kind == api.IrJump || kind == api.IrZero
		ends := goes || kind == api.IrRet
		expectLeaders(t, api.Code{Code: []api.Ir{{}, {}, i, {}, {}}}, true, goes, false, ends, false)
		// At the end there is nothing behind it.
		expectLeaders(t, api.Code{Code: []api.Ir{{}, {}, {}, i}}, true, goes, false, false)
		expectLeaders(t, api.Code{Code: []api.Ir{i}}, true)
	}
}

func TestIrLeadersOfJumps(t *testing.T) {
	for _, kind := range []int{api.IrJump, api.IrZero} {
		for at := range 6 {
			for _, k := range []int{math.MinInt, -modulus, -2, -1, 0, 1, 2, 3, 4, 5, 6, 7, 256, modulus, modulus + 1, math.MaxInt} {
				code := make([]api.Ir, 6)
				code[at] = api.Ir{Kind: kind, K: k}
				want := make([]bool, 8)
				want[0], want[at+1] = true, true
				if k >= 0 && k < 6 {
					want[k] = true
				}
				expectLeaders(t, api.Code{Code: code}, want[:6]...)
			}
		}
	}
}

func TestIrLeadersOfNoCode(t *testing.T) {
	expectLeaders(t, api.Code{})
	expectLeaders(t, api.Code{Fn: -1, Regs: -1, Code: []api.Ir{}, Metas: good().Metas})
}

func TestIrLeadersOfCodeThatMayNotBe(t *testing.T) {
	const many = 10000
	code := make([]api.Ir, many)
	code[many-2] = api.Ir{Kind: api.IrJump, K: 257, Cost: -1}
	got := ir.Leaders(api.Code{Fn: math.MinInt, Code: code})
	if len(got) != many || !got[0] || !got[257] || !got[many-1] || got[many-2] || got[256] {
		t.Error("P10.2: of more than MaxIr")
	}
}

func TestIrOfSeveralGoroutines(t *testing.T) {
	var all sync.WaitGroup
	p, c := calling(), good()
	for range 8 {
		all.Go(func() {
			for range 100 {
				if !ir.May(p, c) || len(ir.Leaders(c)) != goodPlaces {
					t.Error("what is answered hangs on what else runs")
					return
				}
			}
		})
	}
	all.Wait()
}
