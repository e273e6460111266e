package pack

import (
	"swage/api"
	"swage/wrap"
)

// taker takes bytes off the front of what is left, and never goes beyond the end.
type taker struct {
	left string
}

// takeAll reads s to its end by the form of a program alone: whether what it
// tells may be packed is left to check.
func takeAll(s string) (api.Program, error) {
	t := taker{left: s}
	if text, err := t.take(len(head)); err != nil || text != head {
		return api.Program{}, fault{"head", errForm}
	}
	p, err := t.program()
	if err == nil && t.left != "" {
		err = fault{"rest", errForm}
	}
	return p, err
}

func (t *taker) take(n int) (string, error) {
	if n < 0 || n > len(t.left) {
		return "", errEnd
	}
	taken := t.left[:n]
	t.left = t.left[n:]
	return taken, nil
}

// number takes a number of so many bytes, the lowest one first.
func (t *taker) number(size int) (int, error) {
	taken, err := t.take(size)
	x := 0
	for k := range len(taken) {
		x |= int(taken[k]) << (8 * k)
	}
	return x, err
}

func (t *taker) program() (api.Program, error) {
	var p api.Program
	n, err := t.number(1)
	if err != nil {
		return p, fault{"functions", err}
	}
	err = each("function", n, func(int) error {
		f, err := t.function()
		p.Funcs = append(p.Funcs, f)
		return err
	})
	return p, err
}

func (t *taker) function() (api.Func, error) {
	taken, err := t.take(3)
	if err != nil {
		return api.Func{}, err
	}
	f := api.Func{Args: int(taken[0]), Locals: int(taken[1])}
	err = each("instruction", int(taken[2]), func(int) error {
		i, err := t.instruction()
		f.Code = append(f.Code, i)
		return err
	})
	return f, err
}

func (t *taker) instruction() (api.Ins, error) {
	kind, err := t.number(1)
	if err != nil {
		return api.Ins{}, err
	}
	a, err := t.number(sizeOfA(kind))
	// Four bytes tell a number modulo 2^32; what is told by fewer stays as it is.
	return api.Ins{Kind: kind, A: wrap.Wrap(a)}, err
}
