package tests

import (
	"slices"
	"strings"
	"sync"
	"testing"

	"swage/api"
	"swage/ir"
	"swage/lower"
	"swage/verify"
)

func expectLower(t *testing.T, p api.Program, fn int, want api.Code) {
	t.Helper()
	given := widened(p)
	got, err := lower.Lower(given, fn)
	if !same(got, want) || err != api.OK {
		t.Errorf("P11.1: function %d, %d, is\n%swant\n%s", fn, err, told(got), told(want))
	}
	if !ir.May(p, got) {
		t.Errorf("P10.1: what is answered may not be:\n%s", told(got))
	}
	expectUnchanged(t, given, p)
	again, _ := lower.Lower(given, fn)
	expectApart(t, given, got, again)
}

func expectNotLowered(t *testing.T, p api.Program, fn int) {
	t.Helper()
	given := widened(p)
	if got, err := lower.Lower(given, fn); !same(got, api.Code{}) || err != api.ErrLowerForm {
		t.Errorf("P11.1: function %d of %d is %d\n%s", fn, len(p.Funcs), err, told(got))
	}
	expectUnchanged(t, given, p)
}

// helpers are functions of no, of one and of four arguments, to be called.
func helpers() []api.Func {
	return []api.Func{
		function(0, 0, "c1 r"),
		function(1, 1, "l0 r"),
		function(4, 5, "l3 r"),
	}
}

// expectLowered is of a function that stands ahead of the helpers.
func expectLowered(t *testing.T, args, locals int, text string, want string, metas ...string) {
	t.Helper()
	p := program(append([]api.Func{function(args, locals, text)}, helpers()...)...)
	expectLower(t, p, 0, codeOf(0, locals+8, want, metas...))
}

func TestLowerOfWhatIsNotVerified(t *testing.T) {
	for _, p := range notVerified() {
		for fn := -1; fn < 3; fn++ {
			expectNotLowered(t, p, fn)
		}
		expectNotLowered(t, p, len(p.Funcs)-1)
	}
}

func TestLowerOfNoSuchFunction(t *testing.T) {
	for _, fn := range values {
		if fn < 0 || fn > 4 {
			expectNotLowered(t, calling(), fn)
		}
	}
	expectNotLowered(t, program(helpers()...), 3)
}

func TestLowerOfFunctions(t *testing.T) {
	p := program(append(helpers(), function(2, 8, "l7 r"))...)
	expectLower(t, p, 0, codeOf(0, 8, "r0=#1$1@0, ret r0$1@1"))
	expectLower(t, p, 1, codeOf(1, 9, "r1=r0$1@0, ret r1$1@1"))
	expectLower(t, p, 2, codeOf(2, 13, "r5=r3$1@0, ret r5$1@1"))
	expectLower(t, p, 3, codeOf(3, 16, "r8=r7$1@0, ret r8$1@1"))
	// Its place among the others is the only thing that tells them apart.
	expectLower(t, program(slices.Repeat(helpers()[1:2], 8)...), 7, codeOf(7, 9, "r1=r0$1@0, ret r1$1@1"))
}

func TestLowerOfEachKind(t *testing.T) {
	expectLowered(t, 1, 3, "c-7 r", "r3=#-7$1@0, ret r3$1@1")
	expectLowered(t, 1, 3, "c5 c2147483647 c-2147483648 r",
		"r3=#5$1@0, r4=#2147483647$1@1, r5=#-2147483648$1@2, ret r5$1@3")
	expectLowered(t, 1, 3, "l2 l0 r", "r3=r2$1@0, r4=r0$1@1, ret r4$1@2")
	expectLowered(t, 1, 3, "c1 c2 s0 s2 l1 r",
		"r3=#1$1@0, r4=#2$1@1, r0=r4$1@2, r2=r3$1@3, r3=r1$1@4, ret r3$1@5")
	expectLowered(t, 0, 0, "c1 d d r", "r0=#1$1@0, r1=r0$1@1, r2=r1$1@2, ret r2$1@3")
	expectLowered(t, 0, 1, "c1 c2 x p c3 r",
		"r1=#1$1@0, r2=#2$1@1, nop$1@2, print r1$1@3, r1=#3$1@4, ret r1$1@5")
	expectLowered(t, 0, 1, "c1 c2 p x c3 r",
		"r1=#1$1@0, r2=#2$1@1, print r2$1@2, nop$1@3, r1=#3$1@4, ret r1$1@5")
	for _, op := range strings.Fields("+ - * / % = <") {
		expectLowered(t, 2, 2, "c9 l0 l1 "+op+" r",
			"r2=#9$1@0, r3=r0$1@1, r4=r1$1@2, r3=r3 "+op+" r4$1@3, ret r3$1@4")
		expectLowered(t, 0, 0, "c1 c2 "+op+" r", "r0=#1$1@0, r1=#2$1@1, r0=r0 "+op+" r1$1@2, ret r0$1@3")
	}
}

func TestLowerOfCalls(t *testing.T) {
	expectLowered(t, 0, 2, "f1 r", "r2=f1[]$1@0, ret r2$1@1")
	expectLowered(t, 0, 2, "c5 f1 r", "r2=#5$1@0, r3=f1[]$1@1, ret r3$1@2")
	expectLowered(t, 0, 2, "c5 f2 r", "r2=#5$1@0, r2=f2[2]$1@1, ret r2$1@2")
	expectLowered(t, 0, 2, "c5 c6 f2 r", "r2=#5$1@0, r3=#6$1@1, r3=f2[3]$1@2, ret r3$1@3")
	expectLowered(t, 0, 0, "c1 c2 c3 c4 f3 r",
		"r0=#1$1@0, r1=#2$1@1, r2=#3$1@2, r3=#4$1@3, r0=f3[0 1 2 3]$1@4, ret r0$1@5")
	expectLowered(t, 2, 2, "c1 c2 c3 c4 c5 f3 r",
		"r2=#1$1@0, r3=#2$1@1, r4=#3$1@2, r5=#4$1@3, r6=#5$1@4, r3=f3[3 4 5 6]$1@5, ret r3$1@6")
	// Of itself, and on the highest stack.
	expectLowered(t, 1, 8, "l0 d d d d d d d f0 r",
		"r8=r0$1@0, r9=r8$1@1, r10=r9$1@2, r11=r10$1@3, r12=r11$1@4, r13=r12$1@5, r14=r13$1@6, r15=r14$1@7, r15=f0[15]$1@8, ret r15$1@9")
}

func TestLowerOfJumpsForward(t *testing.T) {
	expectLowered(t, 0, 0, "j1 c1 r", "go1$1@0, r0=#1$1@1, ret r0$1@2")
	expectLowered(t, 1, 1, "l0 z3 j3 c1 r", "r1=r0$1@0, if r1 go3$1@1, go3$1@2, r1=#1$1@3, ret r1$1@4")
	expectLowered(t, 1, 1, "l0 l0 z3 r", "r1=r0$1@0, r2=r0$1@1, if r2 go3$1@2, ret r1$1@3")
	expectLowered(t, 1, 1, "l0 z5 c1 j6 x c2 r",
		"r1=r0$1@0, if r1 go4$1@1, r1=#1$1@2, go5$1@3, r1=#2$1@5, ret r1$1@6")
}

func TestLowerOfWhatIsNotReached(t *testing.T) {
	expectLowered(t, 0, 0, "c1 r c2 j0 r", "r0=#1$1@0, ret r0$1@1")
	expectLowered(t, 0, 0, "j4 x j0 z1 c1 r x x x", "go1$1@0, r0=#1$1@4, ret r0$1@5")
	expectLowered(t, 0, 0, "j3 c7 r j1 x", "go3$1@0, r0=#7$1@1, ret r0$1@2, poll m0@3, go1$1@3", "0:3 /")
	expectLowered(t, 0, 0, "j5 c7 r x x j1", "go3$1@0, r0=#7$1@1, ret r0$1@2, poll m0@5, go1$1@5", "0:5 /")
	p := calling()
	expectLower(t, p, 0, codeOf(0, 10, "r2=#1$1@0, r3=r0$1@1, r3=f1[3]$1@2, r2=r2 + r3$1@3, r2=f2[2]$1@4, r3=r2$1@5, nop$1@6, ret r2$1@7"))
	expectLower(t, p, 1, codeOf(1, 9, "r1=#1$1@0, go2$1@1, r1=f0[1]$1@3, ret r1$1@4"))
	expectLower(t, p, 2, codeOf(2, 11, "r3=#1$1@0, r4=#1$1@1, r4=f1[4]$1@2, r4=f2[4]$1@3, go5$1@4, r3=r3 + r4$1@6, ret r3$1@7"))
}

func TestLowerOfLoops(t *testing.T) {
	expectLowered(t, 0, 0, "j0", "poll m0@0, go0$1@0", "0:0 /")
	expectLowered(t, 0, 2, "j0 c1 r", "poll m0@0, go0$1@0", "0:0 r0 r1/")
	expectLowered(t, 0, 2, "c7 j1", "r2=#7$1@0, poll m0@1, go1$1@1", "0:1 r0 r1/r2")
	expectLowered(t, 0, 0, "c7 c8 x j1", "r0=#7$1@0, r1=#8$1@1, nop$1@2, poll m0@3, go1$1@3", "0:3 /r0")
	// What is asked is on the stack still, when the poll is come to.
	expectLowered(t, 1, 1, "l0 z0 c1 r", "r1=r0$1@0, poll m0@1, if r1 go0$1@1, r1=#1$1@2, ret r1$1@3", "0:1 r0/r1")
	expectLowered(t, 1, 3, "c4 c5 l0 z2 r",
		"r3=#4$1@0, r4=#5$1@1, r5=r0$1@2, poll m0@3, if r5 go2$1@3, ret r4$1@4", "0:3 r0 r1 r2/r3 r4 r5")
	expectLowered(t, 0, 8, "c1 d d d d d d d z7 r",
		"r8=#1$1@0, r9=r8$1@1, r10=r9$1@2, r11=r10$1@3, r12=r11$1@4, r13=r12$1@5, r14=r13$1@6, r15=r14$1@7, "+
			"poll m0@8, if r15 go7$1@8, ret r14$1@9",
		"0:8 r0 r1 r2 r3 r4 r5 r6 r7/r8 r9 r10 r11 r12 r13 r14 r15")
}

func TestLowerOfSeveralPolls(t *testing.T) {
	// To a jump that has a poll ahead, from before it, from behind it, and over others.
	expectLowered(t, 0, 1, "j2 j0 j1", "go3$1@0, poll m0@1, go0$1@1, poll m1@2, go1$1@2", "0:1 r0/", "0:2 r0/")
	expectLowered(t, 1, 1, "l0 z5 l0 z0 j0 l0 d z6 x j4 r",
		"r1=r0$1@0, if r1 go7$1@1, r1=r0$1@2, poll m0@3, if r1 go0$1@3, poll m1@4, go0$1@4, "+
			"r1=r0$1@5, r2=r1$1@6, poll m2@7, if r2 go8$1@7, nop$1@8, poll m3@9, go5$1@9",
		"0:3 r0/r1", "0:4 r0/", "0:7 r0/r1 r2", "0:9 r0/")
}

func TestLowerOfTheLongestFunctions(t *testing.T) {
	// One goes on to the end.
	straight := function(0, 0, strings.Repeat("c1 x ", 31)+"c1 r")
	want := api.Code{Regs: 8}
	for pc, i := range straight.Code {
		want.Code = append(want.Code, [...]api.Ir{
			api.InsConst: {Kind: api.IrConst, K: 1, Cost: 1, Pc: pc},
			api.InsDrop:  {Kind: api.IrNop, Cost: 1, Pc: pc},
			api.InsRet:   {Kind: api.IrRet, Cost: 1, Pc: pc},
		}[i.Kind])
	}
	expectLower(t, program(straight), 0, want)
	// One goes to its end, and comes back pc by pc: each but the first one has a poll.
	back := api.Func{Code: []api.Ins{{Kind: api.InsJump, A: 63}, {Kind: api.InsJump, A: 1}}}
	want = codeOf(0, 8, "go125$1@0, poll m0@1, go1$1@1", "0:1 /")
	for pc := 2; pc < 64; pc++ {
		back.Code = append(back.Code, api.Ins{Kind: api.InsJump, A: pc - 1})
		want.Metas = append(want.Metas, api.Meta{Parts: []api.Part{{Pc: pc}}})
		want.Code = append(want.Code, api.Ir{Kind: api.IrPoll, Meta: pc - 1, Pc: pc},
			api.Ir{Kind: api.IrJump, K: 2*pc - 3, Cost: 1, Pc: pc})
	}
	expectLower(t, program(back), 0, want)
}

// lowered tells in two rounds what Lower tells in one.
func lowered(p api.Program, fn int) api.Code {
	f := p.Funcs[fn]
	heights, _, _ := verify.Heights(p, fn)
	isBack := func(pc int) bool {
		kind := f.Code[pc].Kind
		return (kind == api.InsJump || kind == api.InsZero) && f.Code[pc].A <= pc
	}
	places := make([]int, len(f.Code)+1)
	for pc := range f.Code {
		places[pc+1] = places[pc]
		if heights[pc] != unreached {
			places[pc+1]++
		}
		if heights[pc] != unreached && isBack(pc) {
			places[pc+1]++
		}
	}
	c := api.Code{Fn: fn, Regs: f.Locals + 8}
	for pc, i := range f.Code {
		if heights[pc] == unreached {
			continue
		}
		if isBack(pc) {
			part := api.Part{Fn: fn, Pc: pc}
			for k := range f.Locals + heights[pc] {
				if k < f.Locals {
					part.Locals = append(part.Locals, reg(k))
				} else {
					part.Stack = append(part.Stack, reg(k))
				}
			}
			c.Code = append(c.Code, api.Ir{Kind: api.IrPoll, Meta: len(c.Metas), Pc: pc})
			c.Metas = append(c.Metas, api.Meta{Parts: []api.Part{part}})
		}
		one := loweredOne(p, i, f.Locals+heights[pc])
		if i.Kind == api.InsJump || i.Kind == api.InsZero {
			one.K = places[i.A]
		}
		one.Cost, one.Pc = 1, pc
		c.Code = append(c.Code, one)
	}
	return c
}

// loweredOne has free as the first register above the stack.
func loweredOne(p api.Program, i api.Ins, free int) api.Ir {
	one := map[int]api.Ir{
		api.InsConst: {Kind: api.IrConst, R: free, K: i.A},
		api.InsLoad:  {Kind: api.IrMove, R: free, A: i.A},
		api.InsStore: {Kind: api.IrMove, R: i.A, A: free - 1},
		api.InsDup:   {Kind: api.IrMove, R: free, A: free - 1},
		api.InsDrop:  {Kind: api.IrNop},
		api.InsJump:  {Kind: api.IrJump},
		api.InsZero:  {Kind: api.IrZero, A: free - 1},
		api.InsPrint: {Kind: api.IrPrint, A: free - 1},
		api.InsRet:   {Kind: api.IrRet, A: free - 1},
		api.InsCall:  {Kind: api.IrCall, K: i.A},
	}
	if i.Kind >= api.InsAdd && i.Kind <= api.InsLt {
		return api.Ir{Kind: api.IrBin, R: free - 2, A: free - 2, B: free - 1, K: i.Kind}
	}
	if i.Kind != api.InsCall {
		return one[i.Kind]
	}
	call := one[i.Kind]
	for call.R = free - p.Funcs[i.A].Args; len(call.Args) < p.Funcs[i.A].Args; {
		call.Args = append(call.Args, call.R+len(call.Args))
	}
	return call
}

func TestLowerOfProgramsByChance(t *testing.T) {
	c := newChance(11)
	for range 300 {
		p := c.program()
		for fn := range p.Funcs {
			expectLower(t, p, fn, lowered(p, fn))
		}
	}
}

func TestLowerOfSeveralGoroutines(t *testing.T) {
	var all sync.WaitGroup
	p := calling()
	want := lowered(p, 2)
	for range 8 {
		all.Go(func() {
			for range 100 {
				if got, err := lower.Lower(p, 2); err != api.OK || !same(got, want) {
					t.Error("what is answered hangs on what else runs")
					return
				}
			}
		})
	}
	all.Wait()
}
