package pack_test

import (
	"math"
	"reflect"
	"slices"
	"strings"
	"sync"
	"testing"

	"swage/api"
	"swage/pack"
)

const (
	least    = -2147483648
	greatest = 2147483647
	modulus  = 4294967296
)

// rows are instructions and their bytes: each kind, A at its bounds.
var rows = [...]struct {
	ins   api.Ins
	bytes string
}{
	{api.Ins{Kind: 0, A: 0}, "\x00\x00\x00\x00\x00"},
	{api.Ins{Kind: 0, A: 1}, "\x00\x01\x00\x00\x00"},
	{api.Ins{Kind: 0, A: -1}, "\x00\xff\xff\xff\xff"},
	{api.Ins{Kind: 0, A: 255}, "\x00\xff\x00\x00\x00"},
	{api.Ins{Kind: 0, A: 256}, "\x00\x00\x01\x00\x00"},
	{api.Ins{Kind: 0, A: 0x12345678}, "\x00\x78\x56\x34\x12"},
	{api.Ins{Kind: 0, A: -0x12345678}, "\x00\x88\xa9\xcb\xed"},
	{api.Ins{Kind: 0, A: greatest}, "\x00\xff\xff\xff\x7f"},
	{api.Ins{Kind: 0, A: greatest - 1}, "\x00\xfe\xff\xff\x7f"},
	{api.Ins{Kind: 0, A: least}, "\x00\x00\x00\x00\x80"},
	{api.Ins{Kind: 0, A: least + 1}, "\x00\x01\x00\x00\x80"},
	{api.Ins{Kind: 1, A: 0}, "\x01\x00"},
	{api.Ins{Kind: 1, A: 7}, "\x01\x07"},
	{api.Ins{Kind: 2, A: 0}, "\x02\x00"},
	{api.Ins{Kind: 2, A: 7}, "\x02\x07"},
	{api.Ins{Kind: 3}, "\x03"},
	{api.Ins{Kind: 4}, "\x04"},
	{api.Ins{Kind: 5}, "\x05"},
	{api.Ins{Kind: 6}, "\x06"},
	{api.Ins{Kind: 7}, "\x07"},
	{api.Ins{Kind: 8}, "\x08"},
	{api.Ins{Kind: 9}, "\x09"},
	{api.Ins{Kind: 10}, "\x0a"},
	{api.Ins{Kind: 11}, "\x0b"},
	{api.Ins{Kind: 12, A: 0}, "\x0c\x00"},
	{api.Ins{Kind: 12, A: 63}, "\x0c\x3f"},
	{api.Ins{Kind: 13, A: 0}, "\x0d\x00"},
	{api.Ins{Kind: 13, A: 63}, "\x0d\x3f"},
	{api.Ins{Kind: 14, A: 0}, "\x0e\x00"},
	{api.Ins{Kind: 14, A: 7}, "\x0e\x07"},
	{api.Ins{Kind: 15}, "\x0f"},
	{api.Ins{Kind: 16}, "\x10"},
}

// wrongIns may not be; most are as others that may be, if some bits are cut off.
var wrongIns = [...]api.Ins{
	{Kind: -1}, {Kind: 17}, {Kind: 255}, {Kind: 256}, {Kind: 256 + api.InsRet}, {Kind: -256 + api.InsAdd},
	{Kind: modulus}, {Kind: modulus + api.InsRet}, {Kind: math.MaxInt}, {Kind: math.MinInt},
	{Kind: api.InsConst, A: least - 1}, {Kind: api.InsConst, A: greatest + 1},
	{Kind: api.InsConst, A: modulus}, {Kind: api.InsConst, A: math.MinInt}, {Kind: api.InsConst, A: math.MaxInt},
	{Kind: api.InsLoad, A: -1}, {Kind: api.InsLoad, A: 8}, {Kind: api.InsLoad, A: 256},
	{Kind: api.InsStore, A: -1}, {Kind: api.InsStore, A: 8}, {Kind: api.InsStore, A: 256},
	{Kind: api.InsJump, A: -1}, {Kind: api.InsJump, A: 64}, {Kind: api.InsJump, A: 256},
	{Kind: api.InsZero, A: -1}, {Kind: api.InsZero, A: 64}, {Kind: api.InsZero, A: 256},
	{Kind: api.InsCall, A: -1}, {Kind: api.InsCall, A: 8}, {Kind: api.InsCall, A: 256},
	{Kind: api.InsAdd, A: 1}, {Kind: api.InsLt, A: -1}, {Kind: api.InsDup, A: 1}, {Kind: api.InsDrop, A: 256},
	{Kind: api.InsPrint, A: 1}, {Kind: api.InsRet, A: -1}, {Kind: api.InsRet, A: modulus},
}

func TestEachInstruction(t *testing.T) {
	for _, row := range rows {
		expectBoth(t, one(0, 0, row.ins), "Tik\x01\x00\x00\x01"+row.bytes)
	}
}

func TestAllInstructionsInOneFunction(t *testing.T) {
	p, s := everything()
	expectBoth(t, p, s)
}

func TestArgsAndLocals(t *testing.T) {
	for args := -2; args <= 12; args++ {
		for locals := -2; locals <= 12; locals++ {
			p := one(args, locals, api.Ins{Kind: api.InsRet})
			s := "Tik\x01" + string([]byte{byte(args), byte(locals), 1}) + "\x10"
			if 0 <= args && args <= 4 && args <= locals && locals <= 8 {
				expectBoth(t, p, s)
			} else {
				expectNeither(t, p, s)
			}
		}
	}
	for _, far := range []int{math.MinInt, -modulus, -256, 256, 257, modulus, modulus + 1, math.MaxInt} {
		expectPut(t, one(far, 8, api.Ins{Kind: api.InsRet}), "", api.ErrPackForm)
		expectPut(t, one(far, far, api.Ins{Kind: api.InsRet}), "", api.ErrPackForm)
		expectPut(t, one(0, far, api.Ins{Kind: api.InsRet}), "", api.ErrPackForm)
	}
}

func TestHowManyFunctions(t *testing.T) {
	for _, n := range []int{0, 1, 2, 7, 8, 9, 10, 128, 255, 256, 257} {
		var p api.Program
		s := "Tik" + string([]byte{byte(n)})
		for k := range n {
			args := k % 5
			p.Funcs = append(p.Funcs, api.Func{Args: args, Locals: args + 1, Code: []api.Ins{{Kind: api.InsLoad}, {Kind: api.InsRet}}})
			s += string([]byte{byte(args), byte(args + 1), 2}) + "\x01\x00\x10"
		}
		if 1 <= n && n <= 8 {
			expectBoth(t, p, s)
		} else {
			expectNeither(t, p, s)
		}
	}
}

func TestHowManyInstructions(t *testing.T) {
	for _, n := range []int{0, 1, 2, 63, 64, 65, 66, 128, 255, 256, 257} {
		code := slices.Repeat([]api.Ins{{Kind: api.InsConst, A: -2}}, n)
		s := "\x01\x02" + string([]byte{byte(n)}) + strings.Repeat("\x00\xfe\xff\xff\xff", n)
		first := one(1, 2, code...)
		second := api.Program{Funcs: []api.Func{one(0, 0, api.Ins{Kind: api.InsRet}).Funcs[0], first.Funcs[0]}}
		if 1 <= n && n <= 64 {
			expectBoth(t, first, "Tik\x01"+s)
			expectBoth(t, second, "Tik\x02\x00\x00\x01\x10"+s)
		} else {
			expectNeither(t, first, "Tik\x01"+s)
			expectNeither(t, second, "Tik\x02\x00\x00\x01\x10"+s)
		}
	}
}

func TestGreatest(t *testing.T) {
	var p api.Program
	f := api.Func{Args: 4, Locals: 8, Code: slices.Repeat([]api.Ins{{Kind: api.InsConst, A: least}}, 64)}
	for range 8 {
		p.Funcs = append(p.Funcs, f)
	}
	s := "Tik\x08" + strings.Repeat("\x04\x08\x40"+strings.Repeat("\x00\x00\x00\x00\x80", 64), 8)
	expectBoth(t, p, s)
}

// TestPutRefuses breaks, one at a time, each thing of each function and each
// instruction of a program that may be packed.
func TestPutRefuses(t *testing.T) {
	fresh := func() api.Program {
		f := func() api.Func { return api.Func{Args: 2, Locals: 3, Code: []api.Ins{{A: 5}, {Kind: 10}, {Kind: 16}}} }
		return api.Program{Funcs: []api.Func{f(), f(), f()}}
	}
	if _, err := pack.Put(fresh()); err != api.OK {
		t.Fatalf("P3.1: what is to be broken is refused: %d", err)
	}
	breaks := []func(f *api.Func){
		func(f *api.Func) { f.Args = -1 },
		func(f *api.Func) { f.Args = f.Locals + 1 },
		func(f *api.Func) { f.Args, f.Locals = 5, 8 },
		func(f *api.Func) { f.Locals = f.Args - 1 },
		func(f *api.Func) { f.Locals = 9 },
		func(f *api.Func) { f.Code = nil },
		func(f *api.Func) { f.Code = []api.Ins{} },
		func(f *api.Func) { f.Code = make([]api.Ins, 65) },
	}
	for at := range 3 {
		for _, turn := range breaks {
			p := fresh()
			turn(&p.Funcs[at])
			expectPut(t, p, "", api.ErrPackForm)
		}
		for pc := range 3 {
			for _, wrong := range wrongIns {
				p := fresh()
				p.Funcs[at].Code[pc] = wrong
				expectPut(t, p, "", api.ErrPackForm)
			}
		}
	}
	expectPut(t, api.Program{}, "", api.ErrPackForm)
	expectPut(t, api.Program{Funcs: []api.Func{}}, "", api.ErrPackForm)
}

func TestGetRefusesBeginnings(t *testing.T) {
	_, s := everything()
	for n := range len(s) {
		expectGet(t, s[:n], api.Program{}, api.ErrPackForm)
	}
}

func TestGetRefusesMore(t *testing.T) {
	_, s := everything()
	for more := range 256 {
		expectGet(t, s+string([]byte{byte(more)}), api.Program{}, api.ErrPackForm)
	}
	expectGet(t, s+s, api.Program{}, api.ErrPackForm)
	expectGet(t, s+"\x00\x00\x01\x10", api.Program{}, api.ErrPackForm)
}

func TestGetRefusesHeads(t *testing.T) {
	const rest = "\x01\x00\x00\x01\x10"
	expectGet(t, "Tik"+rest, one(0, 0, api.Ins{Kind: api.InsRet}), api.OK)
	for _, head := range []string{"", "T", "Ti", "tik", "TIK", "Tjk", "Til", "Tik ", " Tik", "TikTik", "\x00\x00\x00", "kiT"} {
		expectGet(t, head+rest, api.Program{}, api.ErrPackForm)
	}
}

func TestGetRefusesA(t *testing.T) {
	bounds := [...]struct{ kind, limit int }{
		{api.InsLoad, 8}, {api.InsStore, 8}, {api.InsJump, 64}, {api.InsZero, 64}, {api.InsCall, 8},
	}
	for _, b := range bounds {
		for a := range 256 {
			s := "Tik\x01\x00\x00\x01" + string([]byte{byte(b.kind), byte(a)})
			if a < b.limit {
				expectGet(t, s, one(0, 0, api.Ins{Kind: b.kind, A: a}), api.OK)
			} else {
				expectGet(t, s, api.Program{}, api.ErrPackForm)
			}
		}
	}
}

// TestGetOfTurnedBytes turns each byte of a program into each other one, and
// asks a reader of its own whether that is a program.
func TestGetOfTurnedBytes(t *testing.T) {
	_, s := everything()
	for at := range len(s) {
		for by := range 256 {
			turned := s[:at] + string([]byte{byte(by)}) + s[at+1:]
			expectAsRead(t, turned)
		}
	}
}

// TestGetOfShortBytes goes through all texts of few bytes behind the head that
// are made of bytes that mean something somewhere.
func TestGetOfShortBytes(t *testing.T) {
	letters := []byte{0, 1, 2, 3, 5, 8, 9, 16, 17, 255}
	var extend func(s string, more int)
	extend = func(s string, more int) {
		expectAsRead(t, s)
		if more == 0 {
			return
		}
		for _, b := range letters {
			extend(s+string([]byte{b}), more-1)
		}
	}
	extend("Tik", 6)
}

func TestNothingHandedInIsChanged(t *testing.T) {
	p, s := everything()
	spare := api.Func{Args: 3, Locals: 4, Code: []api.Ins{{Kind: 99, A: 98}}}
	p.Funcs = append(make([]api.Func, 0, 8), p.Funcs...)
	for k := range p.Funcs {
		p.Funcs[k].Code = append(append(make([]api.Ins, 0, 70), p.Funcs[k].Code...), api.Ins{Kind: 97, A: 96})
		p.Funcs[k].Code = p.Funcs[k].Code[:len(p.Funcs[k].Code)-1]
	}
	p.Funcs = append(p.Funcs, spare)[:len(p.Funcs)]
	expectPut(t, p, s, api.OK)
	want, _ := everything()
	if !reflect.DeepEqual(p, want) {
		t.Errorf("R4: Put has changed its program: %v", p)
	}
	if beyond := p.Funcs[:len(p.Funcs)+1][len(p.Funcs)]; !reflect.DeepEqual(beyond, spare) {
		t.Errorf("R4: Put has changed the functions' spare room: %v", beyond)
	}
	for k, f := range p.Funcs {
		if beyond := f.Code[:len(f.Code)+1][len(f.Code)]; beyond != (api.Ins{Kind: 97, A: 96}) {
			t.Errorf("R4: Put has changed the spare room of function %d: %v", k, beyond)
		}
	}
}

func TestAnswersShareNothing(t *testing.T) {
	want, s := everything()
	first, _ := pack.Get(s)
	second, _ := pack.Get(s)
	for k := range first.Funcs {
		code := first.Funcs[k].Code
		for pc := range code[:cap(code)] {
			code[:cap(code)][pc] = api.Ins{Kind: -5, A: k}
		}
		for other := k + 1; other < len(first.Funcs); other++ {
			if !slices.Equal(first.Funcs[other].Code, want.Funcs[other].Code) {
				t.Errorf("R4: functions %d and %d share memory", k, other)
			}
		}
	}
	clear(first.Funcs[:cap(first.Funcs)])
	if !reflect.DeepEqual(second, want) {
		t.Errorf("R4: two answers share memory: %v", second)
	}
	expectGet(t, s, want, api.OK)
}

func TestSeveralGoroutines(t *testing.T) {
	var all sync.WaitGroup
	p, s := everything()
	for range 8 {
		all.Go(func() {
			for range 20 {
				expectBoth(t, p, s)
			}
		})
	}
	all.Wait()
}

func one(args, locals int, code ...api.Ins) api.Program {
	return api.Program{Funcs: []api.Func{{Args: args, Locals: locals, Code: code}}}
}

// everything is a program of three functions with all of rows in the second.
func everything() (api.Program, string) {
	p := api.Program{Funcs: []api.Func{
		{Args: 0, Locals: 0, Code: []api.Ins{{Kind: api.InsCall, A: 1}, {Kind: api.InsRet}}},
		{Args: 2, Locals: 8},
		{Args: 4, Locals: 4, Code: []api.Ins{{Kind: api.InsConst, A: -3}, {Kind: api.InsRet}}},
	}}
	s := "Tik\x03\x00\x00\x02\x0e\x01\x10\x02\x08" + string([]byte{byte(len(rows))})
	for _, row := range rows {
		p.Funcs[1].Code = append(p.Funcs[1].Code, row.ins)
		s += row.bytes
	}
	return p, s + "\x04\x04\x02\x00\xfd\xff\xff\xff\x10"
}

// read works out another way what Get must tell: each bound where it is met.
func read(s string) (p api.Program, ok bool) {
	if len(s) < 4 || s[:3] != "Tik" || s[3] < 1 || s[3] > 8 {
		return p, false
	}
	at := 4
	for range int(s[3]) {
		if len(s) < at+3 || s[at] > 4 || s[at+1] < s[at] || s[at+1] > 8 || s[at+2] < 1 || s[at+2] > 64 {
			return api.Program{}, false
		}
		f := api.Func{Args: int(s[at]), Locals: int(s[at+1])}
		n := int(s[at+2])
		at += 3
		for range n {
			if at >= len(s) || s[at] > 16 {
				return api.Program{}, false
			}
			i := api.Ins{Kind: int(s[at])}
			limit := [...]int{0, 8, 8, 0, 0, 0, 0, 0, 0, 0, 0, 0, 64, 64, 8, 0, 0}[i.Kind]
			switch {
			case i.Kind == 0 && len(s) >= at+5:
				i.A = int(int8(s[at+4]))*16777216 + int(s[at+3])*65536 + int(s[at+2])*256 + int(s[at+1])
				at += 5
			case limit > 0 && len(s) >= at+2 && int(s[at+1]) < limit:
				i.A = int(s[at+1])
				at += 2
			case i.Kind > 0 && limit == 0:
				at++
			default:
				return api.Program{}, false
			}
			f.Code = append(f.Code, i)
		}
		p.Funcs = append(p.Funcs, f)
	}
	if at != len(s) {
		return api.Program{}, false
	}
	return p, true
}

func expectAsRead(t *testing.T, s string) {
	t.Helper()
	if p, ok := read(s); ok {
		expectBoth(t, p, s)
	} else {
		expectGet(t, s, api.Program{}, api.ErrPackForm)
	}
}

func expectBoth(t *testing.T, p api.Program, s string) {
	t.Helper()
	expectPut(t, p, s, api.OK)
	expectGet(t, s, p, api.OK)
}

func expectNeither(t *testing.T, p api.Program, s string) {
	t.Helper()
	expectPut(t, p, "", api.ErrPackForm)
	expectGet(t, s, api.Program{}, api.ErrPackForm)
}

func expectPut(t *testing.T, p api.Program, want string, wantErr api.Errno) {
	t.Helper()
	if got, err := pack.Put(p); got != want || err != wantErr {
		t.Errorf("P3.1: Put(%v) is %q, %d, want %q, %d", p, got, err, want, wantErr)
	}
}

func expectGet(t *testing.T, s string, want api.Program, wantErr api.Errno) {
	t.Helper()
	if got, err := pack.Get(s); !same(got, want) || err != wantErr {
		t.Errorf("P3.2: Get(%q) is %v, %d, want %v, %d", s, got, err, want, wantErr)
	}
}

// same takes an empty list and nil for one.
func same(p, q api.Program) bool {
	return slices.EqualFunc(p.Funcs, q.Funcs, func(f, g api.Func) bool {
		return f.Args == g.Args && f.Locals == g.Locals && slices.Equal(f.Code, g.Code)
	})
}
