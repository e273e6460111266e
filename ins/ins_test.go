package ins_test

import (
	"math"
	"sync"
	"testing"

	"swage/api"
	"swage/ins"
)

const (
	least    = -2147483648
	greatest = 2147483647
	modulus  = 4294967296
)

// callee stands for what an InsCall takes: as many as its function has arguments.
const callee = -1

// kinds tells of each kind the least and the greatest A, and what Effect tells.
var kinds = [...]struct{ kind, low, high, takes, puts int }{
	{api.InsConst, least, greatest, 0, 1},
	{api.InsLoad, 0, api.MaxLocals - 1, 0, 1},
	{api.InsStore, 0, api.MaxLocals - 1, 1, 0},
	{api.InsAdd, 0, 0, 2, 1},
	{api.InsSub, 0, 0, 2, 1},
	{api.InsMul, 0, 0, 2, 1},
	{api.InsDiv, 0, 0, 2, 1},
	{api.InsRem, 0, 0, 2, 1},
	{api.InsEq, 0, 0, 2, 1},
	{api.InsLt, 0, 0, 2, 1},
	{api.InsDup, 0, 0, 1, 2},
	{api.InsDrop, 0, 0, 1, 0},
	{api.InsJump, 0, api.MaxCode - 1, 0, 0},
	{api.InsZero, 0, api.MaxCode - 1, 1, 0},
	{api.InsCall, 0, api.MaxFuncs - 1, callee, 1},
	{api.InsPrint, 0, 0, 1, 0},
	{api.InsRet, 0, 0, 1, 0},
}

// someA are the A at, and next to, where some kind's bounds are, and far ones.
var someA = [...]int{
	math.MinInt, math.MinInt + 1, -modulus - 1, -modulus, -modulus + 1, least - 1, least, least + 1,
	-65, -64, -63, -9, -8, -7, -2, -1, 0, 1, 2, 3, 4, 5, 6, 7, 8, 9, 10, 62, 63, 64, 65, 127, 128, 255, 256,
	greatest - 1, greatest, greatest + 1, modulus - 1, modulus, modulus + 1, math.MaxInt - 1, math.MaxInt,
}

// noKinds are numbers of no kind; some are one modulo 256 or 2^32.
var noKinds = [...]int{
	math.MinInt, -modulus + api.InsConst, -modulus + api.InsDup, -256, -17, -16, -3, -2, -1,
	17, 18, 19, 31, 32, 255, 256, 256 + api.InsAdd, modulus, modulus + api.InsDup, modulus + api.InsRet, math.MaxInt,
}

func TestMayAtTheBounds(t *testing.T) {
	for _, k := range kinds {
		expectMay(t, k.kind, k.low, true)
		expectMay(t, k.kind, k.high, true)
		expectMay(t, k.kind, k.low-1, false)
		expectMay(t, k.kind, k.high+1, false)
	}
}

func TestMayOfAllA(t *testing.T) {
	for _, k := range kinds {
		for _, a := range someA {
			expectMay(t, k.kind, a, k.low <= a && a <= k.high)
		}
		for a := -300; a <= 300; a++ {
			expectMay(t, k.kind, a, k.low <= a && a <= k.high)
		}
	}
}

// TestMayRows says the bounds as plain numbers, as the document does.
func TestMayRows(t *testing.T) {
	rows := []struct {
		kind, a int
		want    bool
	}{
		{0, -2147483648, true}, {0, 2147483647, true}, {0, -2147483649, false}, {0, 2147483648, false},
		{1, 0, true}, {1, 7, true}, {1, 8, false}, {1, -1, false},
		{2, 0, true}, {2, 7, true}, {2, 8, false}, {2, -1, false},
		{12, 0, true}, {12, 63, true}, {12, 64, false}, {12, -1, false},
		{13, 0, true}, {13, 63, true}, {13, 64, false}, {13, -1, false},
		{14, 0, true}, {14, 7, true}, {14, 8, false}, {14, -1, false},
		{3, 0, true}, {3, 1, false}, {9, 0, true}, {9, -1, false},
		{10, 0, true}, {10, 1, false}, {11, 0, true}, {11, 1, false},
		{15, 0, true}, {15, 1, false}, {16, 0, true}, {16, 1, false},
		{-1, 0, false}, {17, 0, false},
	}
	for _, row := range rows {
		expectMay(t, row.kind, row.a, row.want)
	}
}

func TestMayRefusesWhatIsNoKind(t *testing.T) {
	for _, kind := range noKinds {
		for _, a := range someA {
			expectMay(t, kind, a, false)
		}
	}
}

func TestEffectOfEachKind(t *testing.T) {
	for _, k := range kinds {
		for args := 0; args <= api.MaxArgs; args++ {
			takes := k.takes
			if takes == callee {
				takes = args
			}
			for _, a := range someA {
				if k.low <= a && a <= k.high {
					expectEffect(t, k.kind, a, args, takes, k.puts, api.OK)
				}
			}
		}
	}
}

func TestEffectOfCalls(t *testing.T) {
	for fn := range api.MaxFuncs {
		expectEffect(t, api.InsCall, fn, 0, 0, 1, api.OK)
		expectEffect(t, api.InsCall, fn, 1, 1, 1, api.OK)
		expectEffect(t, api.InsCall, fn, 3, 3, 1, api.OK)
		expectEffect(t, api.InsCall, fn, 4, 4, 1, api.OK)
		expectEffect(t, api.InsCall, fn, 5, 0, 0, api.ErrInsForm)
		expectEffect(t, api.InsCall, fn, -1, 0, 0, api.ErrInsForm)
	}
}

// TestEffectRefusesArgs holds for every kind, though only a call reads args.
func TestEffectRefusesArgs(t *testing.T) {
	wrong := []int{math.MinInt, -modulus, -2, -1, api.MaxArgs + 1, api.MaxArgs + 2, modulus, modulus + 1, math.MaxInt}
	for _, k := range kinds {
		for _, args := range wrong {
			expectEffect(t, k.kind, k.low, args, 0, 0, api.ErrInsForm)
			expectEffect(t, k.kind, k.high, args, 0, 0, api.ErrInsForm)
			expectEffect(t, k.kind, k.high+1, args, 0, 0, api.ErrInsForm)
		}
	}
}

func TestEffectRefusesWhatMayNotBe(t *testing.T) {
	for args := 0; args <= api.MaxArgs; args++ {
		for _, k := range kinds {
			for _, a := range someA {
				if a < k.low || a > k.high {
					expectEffect(t, k.kind, a, args, 0, 0, api.ErrInsForm)
				}
			}
			expectEffect(t, k.kind, k.low-1, args, 0, 0, api.ErrInsForm)
			expectEffect(t, k.kind, k.high+1, args, 0, 0, api.ErrInsForm)
		}
		for _, kind := range noKinds {
			expectEffect(t, kind, 0, args, 0, 0, api.ErrInsForm)
			expectEffect(t, kind, 1, args, 0, 0, api.ErrInsForm)
		}
	}
}

func TestSeveralGoroutines(t *testing.T) {
	var all sync.WaitGroup
	for range 8 {
		all.Go(func() {
			for args := 0; args <= api.MaxArgs; args++ {
				expectEffect(t, api.InsCall, 7, args, args, 1, api.OK)
				expectEffect(t, api.InsLt, 0, args, 2, 1, api.OK)
			}
		})
	}
	all.Wait()
}

func expectMay(t *testing.T, kind, a int, want bool) {
	t.Helper()
	if got := ins.May(api.Ins{Kind: kind, A: a}); got != want {
		t.Errorf("P2.1: May({%d, %d}) is %v, want %v", kind, a, got, want)
	}
}

func expectEffect(t *testing.T, kind, a, args, wantTakes, wantPuts int, wantErr api.Errno) {
	t.Helper()
	takes, puts, err := ins.Effect(api.Ins{Kind: kind, A: a}, args)
	if takes != wantTakes || puts != wantPuts || err != wantErr {
		t.Errorf("P2.2: Effect({%d, %d}, %d) is %d, %d, %d, want %d, %d, %d",
			kind, a, args, takes, puts, err, wantTakes, wantPuts, wantErr)
	}
}
