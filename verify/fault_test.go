package verify

import (
	"errors"
	"testing"

	"swage/api"
)

func TestFaultsKeepTheirCause(t *testing.T) {
	stack := checkAll(api.Program{Funcs: []api.Func{{Code: []api.Ins{{}, {Kind: api.InsAdd}, {Kind: api.InsRet}}}}})
	if !errors.Is(stack, api.ErrVerifyStack) || errors.Is(stack, api.ErrVerifyEnd) {
		t.Errorf("too few on the stack: %v", stack)
	}
	if want := "pc 1: " + api.ErrVerifyStack.Error(); stack.Error() != want {
		t.Errorf("%q, want %q", stack.Error(), want)
	}
	form := checkAll(api.Program{})
	if !errors.Is(form, api.ErrVerifyForm) {
		t.Errorf("no functions: %v", form)
	}
	if pc, number := tell(stack); pc != 1 || number != api.ErrVerifyStack {
		t.Errorf("told as %d, %d", pc, number)
	}
	if pc, number := tell(nil); pc != 0 || number != api.OK {
		t.Errorf("no error is told as %d, %d", pc, number)
	}
	if pc, number := tell(fault{7, fault{5, api.ErrVerifyRange}}); pc != 7 || number != api.ErrVerifyRange {
		t.Errorf("a wrapped one is told as %d, %d", pc, number)
	}
}
