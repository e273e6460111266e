package lower

import (
	"swage/api"
	"swage/calls"
	"swage/plain"
)

// walk goes once through a function, and has the code of what is behind it.
type walk struct {
	calls calls.Table
	f     api.Func
	code  api.Code
	// first has, by pc, the first place of what it became.
	first []int
	// waiting has, by pc, the places of the jumps that lead there, but come ahead of it.
	waiting [][]int
}

func begin(t calls.Table, fn int) *walk {
	f := t.Func(fn)
	return &walk{
		calls:   t,
		f:       f,
		code:    api.Code{Fn: fn, Regs: plain.Regs(f.Locals)},
		first:   make([]int, len(f.Code)),
		waiting: make([][]int, len(f.Code)),
	}
}

// lower puts what the reached instruction at pc becomes.
func (w *walk) lower(pc int, i api.Ins, height int) {
	w.arrive(pc)
	jumps := i.Kind == api.InsJump || i.Kind == api.InsZero
	if jumps && i.A <= pc {
		w.poll(pc, height)
	}
	ir := w.irOf(i, height)
	ir.Cost, ir.Pc = 1, pc
	if jumps {
		ir.K = w.lead(i.A, pc)
	}
	w.put(ir)
}

func (w *walk) put(i api.Ir) {
	w.code.Code = append(w.code.Code, i)
}

// arrive gives those that wait for pc its place.
func (w *walk) arrive(pc int) {
	w.first[pc] = len(w.code.Code)
	for _, at := range w.waiting[pc] {
		w.code.Code[at].K = w.first[pc]
	}
}

// lead tells the place that a jump at pc, which is put next, leads to, or has it wait.
func (w *walk) lead(to int, pc int) int {
	if to > pc {
		w.waiting[to] = append(w.waiting[to], len(w.code.Code))
		return 0
	}
	return w.first[to]
}

// poll lets the call at pc be stopped ahead of each round of a loop.
func (w *walk) poll(pc int, height int) {
	w.put(api.Ir{Kind: api.IrPoll, Meta: len(w.code.Metas), Pc: pc})
	part := plain.Part(w.code.Fn, pc, w.f.Locals, height)
	w.code.Metas = append(w.code.Metas, api.Meta{Parts: []api.Part{part}})
}

// irOf is what i becomes, with so many on the stack ahead of it, but for its
// Cost and Pc, and for where it leads.
func (w *walk) irOf(i api.Ins, height int) api.Ir {
	stack := func(j int) int { return plain.Stack(w.f.Locals, j) }
	free, top, under := stack(height), stack(height-1), stack(height-2)
	switch i.Kind {
	case api.InsConst:
		return api.Ir{Kind: api.IrConst, R: free, K: i.A}
	case api.InsLoad:
		return api.Ir{Kind: api.IrMove, R: free, A: i.A}
	case api.InsStore:
		return api.Ir{Kind: api.IrMove, R: i.A, A: top}
	case api.InsDup:
		return api.Ir{Kind: api.IrMove, R: free, A: top}
	case api.InsDrop:
		return api.Ir{Kind: api.IrNop}
	case api.InsJump:
		return api.Ir{Kind: api.IrJump}
	case api.InsZero:
		return api.Ir{Kind: api.IrZero, A: top}
	case api.InsCall:
		many := w.calls.Func(i.A).Args
		return callOf(i.A, stack(height-many), many)
	case api.InsPrint:
		return api.Ir{Kind: api.IrPrint, A: top}
	case api.InsRet:
		return api.Ir{Kind: api.IrRet, A: top}
	}
	return api.Ir{Kind: api.IrBin, R: under, A: under, B: top, K: i.Kind}
}

// callOf has its arguments from a register on, in which its value is laid too.
func callOf(fn int, from int, many int) api.Ir {
	call := api.Ir{Kind: api.IrCall, R: from, K: fn}
	for k := range many {
		call.Args = append(call.Args, from+k)
	}
	return call
}
