package tests

import (
	"fmt"
	"strconv"
	"strings"
	"testing"

	"swage/api"
)

// codeOf reads register code: instructions with commas between them, which are
// written as told writes them, and metas.
func codeOf(fn, regs int, text string, metas ...string) api.Code {
	c := api.Code{Fn: fn, Regs: regs}
	for _, one := range strings.Split(text, ",") {
		if one = strings.TrimSpace(one); one != "" {
			c.Code = append(c.Code, irOf(one))
		}
	}
	for _, meta := range metas {
		c.Metas = append(c.Metas, metaOf(meta))
	}
	return c
}

// irOf reads an instruction; what it costs, and its pc, are 0, if they are left out.
func irOf(text string) api.Ir {
	var i api.Ir
	what := cutNumber(cutNumber(text, "@", &i.Pc), "$", &i.Cost)
	args := ""
	if from := strings.IndexByte(what, '['); from >= 0 {
		what, args = what[:from], strings.Trim(what[from:], "[]")
	}
	for _, arg := range strings.Fields(args) {
		i.Args = append(i.Args, numberOf(arg))
	}
	var op string
	is := func(kind int, format string, into ...any) bool {
		// The end is asked for too.
		n, err := fmt.Sscanf(what+" .", format+" .", into...)
		i.Kind = kind
		return err == nil && n == len(into)
	}
	switch {
	case is(api.IrNop, "nop"), is(api.IrDeep, "deep"):
	case is(api.IrConst, "r%d=#%d", &i.R, &i.K):
	case is(api.IrBin, "r%d=r%d %1s r%d", &i.R, &i.A, &op, &i.B):
		i.K = strings.Index(kindLetters, op)
	case is(api.IrMove, "r%d=r%d", &i.R, &i.A):
	case is(api.IrCall, "r%d=f%d", &i.R, &i.K):
	case is(api.IrJump, "go%d", &i.K):
	case is(api.IrZero, "if r%d go%d", &i.A, &i.K):
	case is(api.IrPrint, "print r%d", &i.A), is(api.IrRet, "ret r%d", &i.A):
	case is(api.IrPoll, "poll m%d", &i.Meta):
	case is(api.IrGuard, "guard r%d is %d m%d", &i.A, &i.K, &i.Meta):
	case is(api.IrGuard, "guard r%d isn't %d m%d", &i.A, &i.K, &i.Meta):
		i.B = 1
	default:
		panic(text)
	}
	return i
}

// cutNumber takes what stands behind a sign at the end.
func cutNumber(text, sign string, into *int) string {
	before, after, ok := strings.Cut(text, sign)
	if ok {
		*into = numberOf(after)
	}
	return before
}

func numberOf(text string) int {
	n, err := strconv.Atoi(text)
	if err != nil {
		panic(text)
	}
	return n
}

// metaOf reads parts: "fn:pc locals / stack", with ; between them.
func metaOf(text string) api.Meta {
	var m api.Meta
	for _, one := range strings.Split(text, ";") {
		where, srcs, ok := strings.Cut(strings.TrimSpace(one), " ")
		if !ok {
			panic(text)
		}
		fn, pc, _ := strings.Cut(where, ":")
		locals, stack, ok := strings.Cut(srcs, "/")
		if !ok {
			panic(text)
		}
		m.Parts = append(m.Parts, api.Part{Fn: numberOf(fn), Pc: numberOf(pc), Locals: srcsOf(locals), Stack: srcsOf(stack)})
	}
	return m
}

func srcsOf(text string) []api.Src {
	var list []api.Src
	for _, word := range strings.Fields(text) {
		list = append(list, api.Src{Const: word[0] == '#', V: numberOf(word[1:])})
	}
	return list
}

// told writes code that may be, or what comes near it.
func told(c api.Code) string {
	var lines []string
	for at, i := range c.Code {
		lines = append(lines, fmt.Sprintf("%4d  %s", at, irTold(i)))
	}
	for at, m := range c.Metas {
		lines = append(lines, fmt.Sprintf("  m%d  %s", at, metaTold(m)))
	}
	return fmt.Sprintf("code of function %d, %d registers:\n%s\n", c.Fn, c.Regs, strings.Join(lines, "\n"))
}

func irTold(i api.Ir) string {
	what := fmt.Sprintf("%+v", i)
	switch i.Kind {
	case api.IrNop:
		what = "nop"
	case api.IrConst:
		what = fmt.Sprintf("r%d=#%d", i.R, i.K)
	case api.IrMove:
		what = fmt.Sprintf("r%d=r%d", i.R, i.A)
	case api.IrBin:
		op := "?"
		if i.K >= 0 && i.K < len(kindLetters) {
			op = kindLetters[i.K : i.K+1]
		}
		what = fmt.Sprintf("r%d=r%d %s r%d", i.R, i.A, op, i.B)
	case api.IrJump:
		what = fmt.Sprintf("go%d", i.K)
	case api.IrZero:
		what = fmt.Sprintf("if r%d go%d", i.A, i.K)
	case api.IrCall:
		what = fmt.Sprintf("r%d=f%d%v", i.R, i.K, i.Args)
	case api.IrPrint:
		what = fmt.Sprintf("print r%d", i.A)
	case api.IrRet:
		what = fmt.Sprintf("ret r%d", i.A)
	case api.IrGuard:
		what = fmt.Sprintf("guard r%d %s %d m%d", i.A, [2]string{"is", "isn't"}[i.B&1], i.K, i.Meta)
	case api.IrPoll:
		what = fmt.Sprintf("poll m%d", i.Meta)
	case api.IrDeep:
		what = "deep"
	}
	return fmt.Sprintf("%s$%d@%d", what, i.Cost, i.Pc)
}

func metaTold(m api.Meta) string {
	var parts []string
	for _, p := range m.Parts {
		parts = append(parts, fmt.Sprintf("%d:%d %s/ %s", p.Fn, p.Pc, srcsTold(p.Locals), srcsTold(p.Stack)))
	}
	return strings.Join(parts, "; ")
}

func srcsTold(list []api.Src) string {
	text := ""
	for _, s := range list {
		sign := "r"
		if s.Const {
			sign = "#"
		}
		text += sign + strconv.Itoa(s.V) + " "
	}
	return text
}

// TestCodeIsReadAsItIsTold holds that the tests' own texts say what they mean.
func TestCodeIsReadAsItIsTold(t *testing.T) {
	c := good()
	var code, metas []string
	for _, i := range c.Code {
		code = append(code, irTold(i))
	}
	for _, m := range c.Metas {
		metas = append(metas, metaTold(m))
	}
	if got := codeOf(c.Fn, c.Regs, strings.Join(code, ", "), metas...); !same(got, c) {
		t.Errorf("%sis read as\n%s", told(c), told(got))
	}
	if got, want := codeOf(1, 2, "r1=r0 + r1$2@3"), (api.Code{Fn: 1, Regs: 2, Code: []api.Ir{
		{Kind: api.IrBin, R: 1, B: 1, K: api.InsAdd, Cost: 2, Pc: 3}}}); !same(got, want) {
		t.Errorf("%+v", got)
	}
}
