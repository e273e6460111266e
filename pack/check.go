package pack

import (
	"swage/api"
	"swage/ins"
)

// check tells why p may not be packed; nil, if it may be.
func check(p api.Program) error {
	if err := checkBounds("functions", len(p.Funcs), 1, api.MaxFuncs); err != nil {
		return err
	}
	return each("function", len(p.Funcs), func(k int) error {
		return checkFunc(p.Funcs[k])
	})
}

func checkFunc(f api.Func) error {
	if err := checkBounds("arguments", f.Args, 0, api.MaxArgs); err != nil {
		return err
	}
	if err := checkBounds("locals", f.Locals, f.Args, api.MaxLocals); err != nil {
		return err
	}
	if err := checkBounds("instructions", len(f.Code), 1, api.MaxCode); err != nil {
		return err
	}
	return each("instruction", len(f.Code), func(k int) error {
		if !ins.May(f.Code[k]) {
			return errForm
		}
		return nil
	})
}

func checkBounds(part string, x int, low int, high int) error {
	if x < low || x > high {
		return fault{part, errForm}
	}
	return nil
}
