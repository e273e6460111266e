package tests

import (
	"math"
	"slices"
	"sync"
	"testing"

	"swage/api"
	"swage/eval"
	"swage/exec"
	"swage/ir"
)

// behind is what At is of what goes on to the next place, whichever that is.
const behind = math.MaxInt

// execRegs are the registers ahead of what is done, by their numbers.
var execRegs = [...]int{5, 0, -3, greatest, least, 7, -1, 5}

// execCode is code of calling's function 0 with i at a place, an IrRet at the
// end, and IrNops of another cost at all other places.
func execCode(i api.Ir, at int) api.Code {
	code := make([]api.Ir, 6)
	for k := range code {
		code[k] = api.Ir{Kind: api.IrNop, Cost: 17, Pc: 4}
	}
	code[5] = api.Ir{Kind: api.IrRet, A: 5, Cost: 17}
	code[at] = i
	return api.Code{Fn: 0, Regs: len(execRegs), Code: code, Metas: good().Metas}
}

// setting is all that Exec is given beside the program and the code.
type setting struct {
	regs  []int
	at    int
	fuel  int
	depth int
	stop  bool
}

func expectExec(t *testing.T, c api.Code, s setting, want api.Exec, wantRegs []int) {
	t.Helper()
	p := calling()
	givenProgram, given, givenRegs := widened(p), widened(c), widened(s.regs)
	got, regs, err := exec.Exec(givenProgram, given, givenRegs, s.at, s.fuel, s.depth, s.stop)
	if !same(got, want) || !slices.Equal(regs, wantRegs) || err != api.OK {
		t.Errorf("P12.1: %s with %+v is %+v, %v, %d, want %+v, %v", irTold(c.Code[s.at]), s, got, regs, err, want, wantRegs)
	}
	again, againRegs, _ := exec.Exec(givenProgram, given, givenRegs, s.at, s.fuel, s.depth, s.stop)
	expectApart(t, givenProgram, given, givenRegs, got, regs, again, againRegs)
	expectUnchanged(t, givenProgram, p)
	expectUnchanged(t, given, c)
	expectUnchanged(t, givenRegs, s.regs)
}

// when tells of which depths, and whether with or without stop, something is so.
type when func(depth int, stop bool) bool

func always(int, bool) bool { return true }

func deep(depth int, _ bool) bool { return depth == api.MaxDepth }

func notDeep(depth int, _ bool) bool { return depth < api.MaxDepth }

func stopped(_ int, stop bool) bool { return stop }

func notStopped(_ int, stop bool) bool { return !stop }

// expectCame does what text says at several places, with several costs and with
// less fuel, enough and more. set are registers that are set, and what they are then.
func expectCame(t *testing.T, text string, is when, want api.Exec, set ...int) {
	t.Helper()
	before := execRegs[:]
	after := slices.Clone(before)
	for k := 0; k < len(set); k += 2 {
		after[set[k]] = set[k+1]
	}
	for _, cost := range []int{0, 1, 256} {
		for _, at := range []int{0, 2, 4} {
			i := irOf(text)
			i.Cost, i.Pc = cost, 3
			c := execCode(i, at)
			if cost == 0 && isNeverFree(i, at) {
				continue
			}
			for _, depth := range []int{1, 11, 12} {
				for _, stop := range []bool{false, true} {
					if cost > 0 {
						expectExec(t, c, setting{before, at, cost - 1, depth, stop}, api.Exec{Kind: api.ExecFuel}, before)
					}
					for _, fuel := range []int{cost, cost + 1} {
						if !is(depth, stop) {
							continue
						}
						full := want
						full.Fuel = fuel - cost
						if want.At == behind {
							full.At = at + 1
						}
						expectExec(t, c, setting{before, at, fuel, depth, stop}, full, after)
					}
				}
			}
		}
	}
}

func isNeverFree(i api.Ir, at int) bool {
	isBack := (i.Kind == api.IrJump || i.Kind == api.IrZero) && i.K <= at
	return isBack || i.Kind == api.IrCall || i.Kind == api.IrPrint
}

func expectNext(t *testing.T, text string, set ...int) {
	t.Helper()
	expectCame(t, text, always, api.Exec{At: behind}, set...)
}

func TestExecOfNop(t *testing.T) {
	expectNext(t, "nop")
}

func TestExecOfConst(t *testing.T) {
	expectNext(t, "r1=#9", 1, 9)
	expectNext(t, "r0=#0", 0, 0)
	expectNext(t, "r7=#-2147483648", 7, least)
	expectNext(t, "r5=#2147483647", 5, greatest)
}

func TestExecOfMove(t *testing.T) {
	expectNext(t, "r1=r3", 1, greatest)
	expectNext(t, "r0=r7")
	expectNext(t, "r7=r1", 7, 0)
	expectNext(t, "r2=r0", 2, 5)
	expectNext(t, "r2=r2")
}

func TestExecOfBin(t *testing.T) {
	expectNext(t, "r1=r0 + r5", 1, 12)
	expectNext(t, "r1=r3 + r0", 1, least+4)
	expectNext(t, "r1=r0 - r5", 1, -2)
	expectNext(t, "r1=r4 - r0", 1, greatest-4)
	expectNext(t, "r1=r2 * r5", 1, -21)
	expectNext(t, "r1=r4 * r4", 1, 0)
	expectNext(t, "r1=r5 / r2", 1, -2)
	expectNext(t, "r1=r4 / r6", 1, least)
	expectNext(t, "r1=r5 % r2", 1, 1)
	expectNext(t, "r1=r2 % r0", 1, -3)
	expectNext(t, "r4=r4 % r6", 4, 0)
	expectNext(t, "r1=r0 = r7", 1, 1)
	expectNext(t, "r0=r0 = r5", 0, 0)
	expectNext(t, "r1=r0 < r5", 1, 1)
	expectNext(t, "r5=r5 < r0", 5, 0)
	expectNext(t, "r2=r0 < r7", 2, 0)
}

func TestExecOfBinThatSetsWhatItReads(t *testing.T) {
	expectNext(t, "r0=r0 - r5", 0, -2)
	expectNext(t, "r5=r0 - r5", 5, -2)
	expectNext(t, "r5=r5 + r5", 5, 14)
	expectNext(t, "r1=r1 * r1")
}

func TestExecOfBinThatTraps(t *testing.T) {
	for _, text := range []string{"r0=r3 / r1", "r0=r3 % r1", "r5=r1 / r1", "r1=r5 % r1", "r4=r4 / r1"} {
		expectCame(t, text, always, api.Exec{Kind: api.ExecZero})
	}
}

func TestExecOfJump(t *testing.T) {
	for k := range 6 {
		expectCame(t, irTold(api.Ir{Kind: api.IrJump, K: k}), always, api.Exec{At: k})
	}
}

func TestExecOfZero(t *testing.T) {
	for k := range 6 {
		expectCame(t, irTold(api.Ir{Kind: api.IrZero, A: 1, K: k}), always, api.Exec{At: k})
		for r, x := range execRegs {
			if x != 0 {
				expectNext(t, irTold(api.Ir{Kind: api.IrZero, A: r, K: k}))
			}
		}
	}
}

func TestExecOfCall(t *testing.T) {
	for _, c := range []struct {
		text string
		fn   int
		args []int
	}{
		{"r1=f3[]", 3, nil},
		{"r1=f0[3]", 0, []int{greatest}},
		{"r3=f1[3]", 1, []int{greatest}},
		{"r0=f4[5 3 2 4]", 4, []int{7, greatest, -3, least}},
		{"r7=f4[4 0 1 0]", 4, []int{least, 5, 0, 5}},
		{"r1=f4[2 2 2 2]", 4, []int{-3, -3, -3, -3}},
	} {
		expectCame(t, c.text, notDeep, api.Exec{Kind: api.ExecCall, At: behind, Fn: c.fn, Args: c.args})
		expectCame(t, c.text, deep, api.Exec{Kind: api.ExecDepth})
	}
}

func TestExecOfPrint(t *testing.T) {
	for r, x := range execRegs {
		expectCame(t, irTold(api.Ir{Kind: api.IrPrint, A: r}), always, api.Exec{At: behind, Print: true, Value: x})
	}
}

func TestExecOfRet(t *testing.T) {
	for r, x := range execRegs {
		expectCame(t, irTold(api.Ir{Kind: api.IrRet, A: r}), always, api.Exec{Kind: api.ExecRet, Value: x})
	}
}

func TestExecOfGuard(t *testing.T) {
	for r, x := range execRegs {
		for _, k := range []int{least, -3, 0, 1, 5, greatest} {
			for b := range 2 {
				i := api.Ir{Kind: api.IrGuard, A: r, B: b, K: k, Meta: r % 3}
				if (b == 0) == (x == k) {
					expectNext(t, irTold(i))
				} else {
					expectCame(t, irTold(i), always, api.Exec{Kind: api.ExecDeopt, Meta: r % 3})
				}
			}
		}
	}
}

func TestExecOfPoll(t *testing.T) {
	for meta := range 3 {
		text := irTold(api.Ir{Kind: api.IrPoll, Meta: meta})
		expectCame(t, text, notStopped, api.Exec{At: behind, Polled: true})
		expectCame(t, text, stopped, api.Exec{Kind: api.ExecDeopt, Meta: meta, Polled: true})
	}
}

func TestExecOfDeep(t *testing.T) {
	expectCame(t, "deep", notDeep, api.Exec{At: behind})
	expectCame(t, "deep", deep, api.Exec{Kind: api.ExecDepth})
}

func TestExecAtTheLastPlace(t *testing.T) {
	regs := execRegs[:]
	for _, depth := range []int{1, 12} {
		for _, stop := range []bool{false, true} {
			at := setting{regs, 5, 20, depth, stop}
			expectExec(t, execCode(irOf("ret r3$3"), 5), at, api.Exec{Kind: api.ExecRet, Fuel: 17, Value: greatest}, regs)
			expectExec(t, execCode(irOf("ret r3$20"), 5), at, api.Exec{Kind: api.ExecRet, Value: greatest}, regs)
			expectExec(t, execCode(irOf("ret r3$21"), 5), at, api.Exec{Kind: api.ExecFuel}, regs)
			expectExec(t, execCode(irOf("go5$3"), 5), at, api.Exec{At: 5, Fuel: 17}, regs)
			expectExec(t, execCode(irOf("go0$3"), 5), at, api.Exec{Fuel: 17}, regs)
		}
	}
	// The longest code, and as many registers as may be.
	c := ret(0, 64, 255)
	c.Code[255].A = 63
	many := make([]int, 64)
	many[63] = least
	expectExec(t, c, setting{many, 255, 0, 1, false}, api.Exec{Kind: api.ExecRet, Value: least}, many)
	expectExec(t, c, setting{many, 254, 0, 1, false}, api.Exec{At: 255}, many)
}

func expectNoExec(t *testing.T, p api.Program, c api.Code, s setting) {
	t.Helper()
	givenProgram, given, givenRegs := widened(p), widened(c), widened(s.regs)
	got, regs, err := exec.Exec(givenProgram, given, givenRegs, s.at, s.fuel, s.depth, s.stop)
	if !same(got, api.Exec{}) || len(regs) != 0 || err != api.ErrExecForm {
		t.Errorf("P12.1: %sat %d with %d registers, fuel %d, depth %d is %+v, %v, %d",
			told(briefly(c)), s.at, len(s.regs), s.fuel, s.depth, got, regs, err)
	}
	expectUnchanged(t, givenProgram, p)
	expectUnchanged(t, given, c)
	expectUnchanged(t, givenRegs, s.regs)
}

// expectSettings turns one thing of a setting, in which an IrPoll is done.
func expectSettings(t *testing.T, isGood func(x int) bool, change func(s *setting, x int)) {
	t.Helper()
	for _, x := range slices.Concat(values, []int{api.MaxFuel - 1, api.MaxFuel, api.MaxFuel + 1}) {
		for _, stop := range []bool{false, true} {
			s := setting{regs: execRegs[:], at: 2, fuel: 9, depth: 3, stop: stop}
			change(&s, x)
			c := execCode(irOf("poll m1"), 2)
			if !isGood(x) {
				expectNoExec(t, calling(), c, s)
			} else if _, _, err := exec.Exec(calling(), c, s.regs, s.at, s.fuel, s.depth, s.stop); err != api.OK {
				t.Errorf("P12.1: %d of %+v", err, s)
			}
		}
	}
}

func TestExecOfSettings(t *testing.T) {
	expectSettings(t, func(x int) bool { return x >= 0 && x < 6 }, func(s *setting, x int) { s.at = x })
	expectSettings(t, func(x int) bool { return x >= 0 && x <= 100000 }, func(s *setting, x int) { s.fuel = x })
	expectSettings(t, func(x int) bool { return x >= 1 && x <= 12 }, func(s *setting, x int) { s.depth = x })
	for k := range execRegs {
		expectSettings(t, func(x int) bool { return x >= least && x <= greatest }, func(s *setting, x int) {
			s.regs = slices.Clone(s.regs)
			s.regs[k] = x
		})
	}
	for _, n := range []int{0, 1, 7, 8, 9, 64, 65, 10000} {
		expectSettings(t, func(int) bool { return n == 8 }, func(s *setting, _ int) { s.regs = make([]int, n) })
	}
	expectSettings(t, func(int) bool { return false }, func(s *setting, _ int) { s.regs = nil })
}

func TestExecOfCodeThatMayNotBe(t *testing.T) {
	for _, p := range notVerified() {
		expectNoExec(t, p, execCode(api.Ir{}, 0), setting{regs: execRegs[:], fuel: 9, depth: 1})
	}
	expectNoExec(t, calling(), api.Code{}, setting{depth: 1})
	expectNoExec(t, calling(), ret(0, 65, 0), setting{regs: make([]int, 65), depth: 1})
	expectNoExec(t, calling(), ret(0, 8, 256), setting{regs: make([]int, 8), depth: 1})
	for _, text := range []string{"r8=#1", "r1=r8", "r1=r0 c r0", "go6", "go2", "if r1 go2", "r1=f1[]", "r1=f1[0 0]",
		"r1=f0[1]", "print r1", "guard r0 is 5 m3", "poll m3", "nop$-1", "nop$257", "nop@64"} {
		// What is done may be right, and what is behind it not.
		for at := range 3 {
			expectNoExec(t, calling(), execCode(irOf(text), 2), setting{regs: execRegs[:], at: at, fuel: 900, depth: 1})
		}
	}
	noMeta := execCode(api.Ir{}, 0)
	noMeta.Metas = append(noMeta.Metas, api.Meta{})
	expectNoExec(t, calling(), noMeta, setting{regs: execRegs[:], fuel: 9, depth: 1})
	noEnd := execCode(irOf("nop"), 5)
	expectNoExec(t, calling(), noEnd, setting{regs: execRegs[:], fuel: 9, depth: 1})
}

// runner does a whole program by Exec, each function in its own code.
type runner struct {
	p     api.Program
	codes []api.Code
	fuel  int
	out   []int
}

// call tells OutValue and what the function gives, or what else it came to.
func (r *runner) call(fn int, args []int, depth int) (int, int) {
	c := r.codes[fn]
	regs := append(slices.Clone(args), make([]int, c.Regs-len(args))...)
	for at := 0; ; {
		e, after, _ := exec.Exec(r.p, c, regs, at, r.fuel, depth, false)
		i := c.Code[at]
		regs, at, r.fuel = after, e.At, e.Fuel
		if e.Print {
			r.out = append(r.out, e.Value)
		}
		switch e.Kind {
		case api.ExecCall:
			done, value := r.call(e.Fn, e.Args, depth+1)
			if done != api.OutValue {
				return done, 0
			}
			regs[i.R] = value
		case api.ExecRet:
			return api.OutValue, e.Value
		case api.ExecZero:
			return api.OutZero, 0
		case api.ExecDepth:
			return api.OutDepth, 0
		case api.ExecFuel:
			return api.OutFuel, 0
		}
	}
}

// TestExecOfProgramsByChance holds what compiled functions come to against what
// the interpreter tells.
func TestExecOfProgramsByChance(t *testing.T) {
	c := newChance(12)
	seen := make([]int, 5)
	for range 400 {
		p := c.program()
		r := runner{p: p, fuel: c.IntN(300)}
		for fn := range p.Funcs {
			r.codes = append(r.codes, lowered(p, fn))
			if !ir.May(p, r.codes[fn]) {
				t.Fatalf("P11.1: %s", told(r.codes[fn]))
			}
		}
		args := make([]int, p.Funcs[0].Args)
		for k := range args {
			args[k] = c.IntN(7) - 3
		}
		want, _ := eval.Eval(p, args, r.fuel)
		done, value := r.call(0, args, 1)
		if got := (api.Result{Done: done, Value: value, Out: r.out, Fuel: r.fuel}); !same(got, want) {
			t.Errorf("P12.1: %v of %v is %v, want %v", p, args, got, want)
		}
		seen[done]++
	}
	if slices.Contains(seen[api.OutValue:], 0) {
		t.Errorf("not all outcomes are seen: %v", seen)
	}
}

func TestExecOfSeveralGoroutines(t *testing.T) {
	var all sync.WaitGroup
	p, c := calling(), execCode(irOf("r1=f4[5 3 2 4]$1"), 2)
	for range 8 {
		all.Go(func() {
			for range 100 {
				e, regs, err := exec.Exec(p, c, execRegs[:], 2, 9, 11, true)
				if err != api.OK || e.Kind != api.ExecCall || e.Args[1] != greatest || !slices.Equal(regs, execRegs[:]) {
					t.Error("what is answered hangs on what else runs")
					return
				}
			}
		})
	}
	all.Wait()
}
