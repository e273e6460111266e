// Package machine runs a program in place: what one instruction does, for those
// who do one, and for those who do many.
package machine

import (
	"swage/api"
	"swage/wrap"
)

// Machine is the functions of a verified program, and a state of it that may be
// (layer 6). So what an instruction takes is always there, and what it names too.
type Machine struct {
	funcs []api.Func
	state api.State
}

// New needs p to be verified, and s to be a state of it that may be. The machine
// has lists of its own, which it may change in place.
func New(p api.Program, s api.State) *Machine {
	return &Machine{funcs: p.Funcs, state: copyOfState(s)}
}

// State tells where it is by the machine's own lists: its next step may change them.
func (m *Machine) State() api.State {
	return m.state
}

// Runs tells whether there is a step that it has not done yet.
func (m *Machine) Runs() bool {
	return m.state.Done == api.OutNone
}

// Step does one instruction: chapter 7, P7.1.
func (m *Machine) Step() {
	if !m.Runs() {
		return
	}
	if m.state.Fuel == 0 {
		m.end(api.OutFuel, 0)
		return
	}
	m.state.Fuel--
	f := m.top()
	i := m.funcs[f.Fn].Code[f.Pc]
	// A call comes back to behind itself, so Pc goes on ahead of it.
	f.Pc++
	m.do(f, i.Kind, i.A)
}

// do needs f to be the top frame.
func (m *Machine) do(f *api.Frame, kind int, a int) {
	switch kind {
	case api.InsLoad:
		// A local is put like a constant.
		a = f.Locals[a]
		fallthrough
	case api.InsConst:
		put(f, a)
	case api.InsStore:
		f.Locals[a] = take(f)
	case api.InsAdd, api.InsSub, api.InsMul, api.InsDiv, api.InsRem, api.InsEq, api.InsLt:
		m.operate(f, kind)
	case api.InsDup:
		x := take(f)
		put(f, x)
		put(f, x)
	case api.InsDrop:
		take(f)
	case api.InsZero:
		if take(f) != 0 {
			return
		}
		// Of 0 it is a jump.
		fallthrough
	case api.InsJump:
		f.Pc = a
	case api.InsPrint:
		m.state.Out = append(m.state.Out, take(f))
	case api.InsCall:
		m.call(f, a)
	case api.InsRet:
		m.ret(take(f))
	}
}

func (m *Machine) operate(f *api.Frame, op int) {
	b := take(f)
	a := take(f)
	// There is no error: op is one, and whatever stands on a stack is a number.
	x, trap, _ := wrap.Do(op, a, b)
	if trap {
		m.end(api.OutZero, 0)
		return
	}
	put(f, x)
}

func (m *Machine) call(f *api.Frame, fn int) {
	if len(m.state.Frames) == api.MaxDepth {
		m.end(api.OutDepth, 0)
		return
	}
	callee := m.funcs[fn]
	locals := make([]int, callee.Locals)
	for arg := callee.Args - 1; arg >= 0; arg-- {
		locals[arg] = take(f)
	}
	m.state.Frames = append(m.state.Frames, api.Frame{Fn: fn, Locals: locals})
}

func (m *Machine) ret(value int) {
	below := len(m.state.Frames) - 1
	if below == 0 {
		m.end(api.OutValue, value)
		return
	}
	m.state.Frames = m.state.Frames[:below]
	put(m.top(), value)
}

func (m *Machine) end(done int, value int) {
	m.state.Frames = nil
	m.state.Done = done
	m.state.Value = value
}

func (m *Machine) top() *api.Frame {
	return &m.state.Frames[len(m.state.Frames)-1]
}

func put(f *api.Frame, x int) {
	f.Stack = append(f.Stack, x)
}

func take(f *api.Frame) int {
	last := len(f.Stack) - 1
	x := f.Stack[last]
	f.Stack = f.Stack[:last]
	return x
}
