package verify

import (
	"swage/api"
)

// checkRange finds an A that names no local, no pc or no function.
func checkRange(p api.Program, f api.Func, reached []bool) error {
	return least(reached, api.ErrVerifyRange, func(pc int) bool {
		i := f.Code[pc]
		switch i.Kind {
		case api.InsLoad, api.InsStore:
			return i.A >= f.Locals
		case api.InsJump, api.InsZero:
			return i.A >= len(f.Code)
		case api.InsCall:
			return i.A >= len(p.Funcs)
		}
		return false
	})
}

// checkEnd finds an instruction behind which what runs would leave the code.
func checkEnd(f api.Func, reached []bool) error {
	return least(reached, api.ErrVerifyEnd, func(pc int) bool {
		kind := f.Code[pc].Kind
		return pc == len(f.Code)-1 && kind != api.InsJump && kind != api.InsRet
	})
}

// least tells the least reached pc of which it is so, as a fault of that number.
func least(reached []bool, number api.Errno, isSo func(pc int) bool) error {
	for pc, is := range reached {
		if is && isSo(pc) {
			return fault{pc, number}
		}
	}
	return nil
}
