package wrap_test

import (
	"math"
	"math/big"
	"sync"
	"testing"

	"swage/api"
	"swage/wrap"
)

const (
	least    = -2147483648
	greatest = 2147483647
	modulus  = 4294967296
)

var ops = [...]int{api.InsAdd, api.InsSub, api.InsMul, api.InsDiv, api.InsRem, api.InsEq, api.InsLt}

// edges are numbers at, and next to, where something changes.
var edges = [...]int{
	least, least + 1, least + 2, -2147395600, -65537, -65536, -65535, -46341, -46340, -10, -7, -3, -2, -1,
	0, 1, 2, 3, 7, 10, 46340, 46341, 65535, 65536, 65537, 2147395600, greatest - 2, greatest - 1, greatest,
}

func TestWrapRows(t *testing.T) {
	rows := []struct{ x, want int }{
		{0, 0}, {1, 1}, {-1, -1}, {12345, 12345}, {-12345, -12345},
		{greatest, greatest}, {greatest + 1, least}, {greatest + 2, least + 1},
		{least, least}, {least - 1, greatest}, {least - 2, greatest - 1},
		{modulus - 1, -1}, {modulus, 0}, {modulus + 1, 1},
		{-modulus - 1, -1}, {-modulus, 0}, {-modulus + 1, 1},
		{3*modulus + greatest, greatest}, {-3*modulus + least, least},
		{math.MaxInt, -1}, {math.MaxInt - 1, -2}, {math.MinInt, 0}, {math.MinInt + 1, 1},
		{math.MaxInt - greatest, least}, {math.MinInt + greatest, greatest},
	}
	for _, row := range rows {
		if got := wrap.Wrap(row.x); got != row.want {
			t.Errorf("P1.1: Wrap(%d) is %d, want %d", row.x, got, row.want)
		}
	}
}

func TestWrapDiffersByMultiple(t *testing.T) {
	for _, low := range edges {
		for _, high := range []int{-2147483647, -1000003, -2, -1, 0, 1, 2, 1000003, 2147483646} {
			x := high*modulus + low
			if got := wrap.Wrap(x); got != low {
				t.Errorf("P1.1: Wrap(%d) is %d, want %d", x, got, low)
			}
		}
	}
}

func TestDoRows(t *testing.T) {
	rows := []struct{ op, a, b, want int }{
		{api.InsAdd, 2, 3, 5},
		{api.InsAdd, greatest, 1, least},
		{api.InsAdd, least, -1, greatest},
		{api.InsAdd, least, least, 0},
		{api.InsAdd, greatest, greatest, -2},
		{api.InsAdd, least, greatest, -1},

		{api.InsSub, 2, 3, -1},
		{api.InsSub, 3, 2, 1},
		{api.InsSub, least, 1, greatest},
		{api.InsSub, greatest, -1, least},
		{api.InsSub, 0, least, least},
		{api.InsSub, -1, least, greatest},
		{api.InsSub, least, least, 0},

		{api.InsMul, 6, 7, 42},
		{api.InsMul, -6, 7, -42},
		{api.InsMul, 65536, 65536, 0},
		{api.InsMul, 46341, 46341, -2147479015},
		{api.InsMul, least, -1, least},
		{api.InsMul, least, least, 0},
		{api.InsMul, greatest, greatest, 1},
		{api.InsMul, least, greatest, least},
		{api.InsMul, least, 0, 0},

		{api.InsDiv, 7, 2, 3},
		{api.InsDiv, -7, 2, -3},
		{api.InsDiv, 7, -2, -3},
		{api.InsDiv, -7, -2, 3},
		{api.InsDiv, 1, 2, 0},
		{api.InsDiv, -1, 2, 0},
		{api.InsDiv, 0, 5, 0},
		{api.InsDiv, least, -1, least},
		{api.InsDiv, least, 1, least},
		{api.InsDiv, greatest, -1, -greatest},
		{api.InsDiv, least, least, 1},
		{api.InsDiv, greatest, least, 0},
		{api.InsDiv, least, greatest, -1},

		{api.InsRem, 7, 2, 1},
		{api.InsRem, -7, 2, -1},
		{api.InsRem, 7, -2, 1},
		{api.InsRem, -7, -2, -1},
		{api.InsRem, 6, 3, 0},
		{api.InsRem, 0, 5, 0},
		{api.InsRem, least, -1, 0},
		{api.InsRem, least, least, 0},
		{api.InsRem, greatest, least, greatest},
		{api.InsRem, least, greatest, -1},
		{api.InsRem, -1, least, -1},

		{api.InsEq, 4, 4, 1},
		{api.InsEq, 4, -4, 0},
		{api.InsEq, least, least, 1},
		{api.InsEq, least, greatest, 0},
		{api.InsEq, 0, 0, 1},

		{api.InsLt, 3, 4, 1},
		{api.InsLt, 4, 4, 0},
		{api.InsLt, 4, 3, 0},
		{api.InsLt, -1, 0, 1},
		{api.InsLt, 0, -1, 0},
		{api.InsLt, least, greatest, 1},
		{api.InsLt, greatest, least, 0},
	}
	for _, row := range rows {
		expect(t, row.op, row.a, row.b, row.want, false, api.OK)
	}
}

// TestDoEdges holds every pair of edges against arithmetic without bounds.
func TestDoEdges(t *testing.T) {
	for _, op := range ops {
		for _, a := range edges {
			for _, b := range edges {
				if b == 0 && (op == api.InsDiv || op == api.InsRem) {
					continue
				}
				expect(t, op, a, b, unbounded(op, a, b), false, api.OK)
			}
		}
	}
}

func TestDoTraps(t *testing.T) {
	for _, a := range edges {
		expect(t, api.InsDiv, a, 0, 0, true, api.OK)
		expect(t, api.InsRem, a, 0, 0, true, api.OK)
	}
}

func TestDoRefusesOps(t *testing.T) {
	known := map[int]int{}
	for _, op := range ops {
		known[op]++
	}
	wrong := []int{math.MinInt, -modulus + api.InsAdd, modulus + api.InsAdd, math.MaxInt}
	for op := -3; op <= 40; op++ {
		if known[op] == 0 {
			wrong = append(wrong, op)
		}
	}
	for _, op := range wrong {
		expect(t, op, 1, 1, 0, false, api.ErrWrapOp)
		expect(t, op, 7, 0, 0, false, api.ErrWrapOp)
		expect(t, op, greatest+1, least-1, 0, false, api.ErrWrapOp)
	}
}

func TestDoRefusesWhatIsNoNumber(t *testing.T) {
	wrong := []int{least - 1, greatest + 1, modulus, -modulus, modulus + 1, math.MaxInt, math.MinInt}
	for _, op := range ops {
		for _, x := range wrong {
			expect(t, op, x, 1, 0, false, api.ErrWrapOp)
			expect(t, op, 1, x, 0, false, api.ErrWrapOp)
			expect(t, op, x, x, 0, false, api.ErrWrapOp)
			// The error goes ahead of the trap.
			expect(t, op, x, 0, 0, false, api.ErrWrapOp)
		}
	}
}

func TestSeveralGoroutines(t *testing.T) {
	var all sync.WaitGroup
	for range 8 {
		all.Go(func() {
			for _, a := range edges {
				expect(t, api.InsRem, a, 7, unbounded(api.InsRem, a, 7), false, api.OK)
			}
		})
	}
	all.Wait()
}

func expect(t *testing.T, op, a, b, want int, wantTrap bool, wantErr api.Errno) {
	t.Helper()
	got, trap, err := wrap.Do(op, a, b)
	if got != want || trap != wantTrap || err != wantErr {
		t.Errorf("P1.2: Do(%d, %d, %d) is %d, %v, %d, want %d, %v, %d", op, a, b, got, trap, err, want, wantTrap, wantErr)
	}
}

// unbounded works the answer out another way than the program does: by big
// numbers, and a rest of them for the wrapping.
func unbounded(op, a, b int) int {
	x, y, z := big.NewInt(int64(a)), big.NewInt(int64(b)), new(big.Int)
	switch op {
	case api.InsAdd:
		z.Add(x, y)
	case api.InsSub:
		z.Sub(x, y)
	case api.InsMul:
		z.Mul(x, y)
	case api.InsDiv:
		z.Quo(x, y)
	case api.InsRem:
		z.Rem(x, y)
	case api.InsEq:
		if x.Cmp(y) == 0 {
			z.SetInt64(1)
		}
	case api.InsLt:
		if x.Cmp(y) < 0 {
			z.SetInt64(1)
		}
	}
	z.Sub(z, big.NewInt(least))
	z.Mod(z, big.NewInt(modulus))
	z.Add(z, big.NewInt(least))
	return int(z.Int64())
}
