package pack

import (
	"errors"
	"testing"

	"swage/api"
)

func TestTakerStopsAtTheEnd(t *testing.T) {
	tk := taker{left: "abc"}
	for _, n := range []int{-1, 4, 1 << 62} {
		if got, err := tk.take(n); got != "" || err != errEnd || tk.left != "abc" {
			t.Errorf("take(%d) is %q, %v, with %q left", n, got, err, tk.left)
		}
	}
	if got, err := tk.take(3); got != "abc" || err != nil || tk.left != "" {
		t.Errorf("take(3) is %q, %v, with %q left", got, err, tk.left)
	}
	if got, err := tk.take(0); got != "" || err != nil {
		t.Errorf("take(0) is %q, %v", got, err)
	}
	if got, err := tk.take(1); got != "" || err != errEnd {
		t.Errorf("take(1) is %q, %v", got, err)
	}
}

func TestFaultsKeepTheirCause(t *testing.T) {
	_, short := takeAll("Tik\x01\x00\x00\x02\x10\x00\x01")
	if !errors.Is(short, errEnd) || errors.Is(short, errForm) {
		t.Errorf("bytes that end too soon: %v", short)
	}
	if want := "function 0: instruction 1: " + errEnd.Error(); short.Error() != want {
		t.Errorf("%q, want %q", short.Error(), want)
	}
	wrong := check(api.Program{Funcs: []api.Func{{Code: []api.Ins{{}}}, {Code: []api.Ins{{Kind: 17}}}}})
	if !errors.Is(wrong, errForm) || errors.Is(wrong, errEnd) {
		t.Errorf("an instruction that may not be: %v", wrong)
	}
	if want := "function 1: instruction 0: " + errForm.Error(); wrong.Error() != want {
		t.Errorf("%q, want %q", wrong.Error(), want)
	}
	if a, b, c := numberOf(short), numberOf(wrong), numberOf(nil); a != api.ErrPackForm || b != api.ErrPackForm || c != api.OK {
		t.Errorf("numbers %d, %d, %d", a, b, c)
	}
}
