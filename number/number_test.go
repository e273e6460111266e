package number_test

import (
	"math"
	"slices"
	"testing"

	"swage/number"
)

var (
	numbers   = []int{-2147483648, -2147483647, -1, 0, 1, 2147483646, 2147483647}
	noNumbers = []int{math.MinInt, -4294967296, -2147483649, 2147483648, 4294967295, 4294967296, math.MaxInt}
)

func TestIs(t *testing.T) {
	for _, x := range numbers {
		if !number.Is(x) {
			t.Errorf("%d is a number", x)
		}
	}
	for _, x := range noNumbers {
		if number.Is(x) {
			t.Errorf("%d is no number", x)
		}
	}
}

func TestAre(t *testing.T) {
	if !number.Are(nil) || !number.Are([]int{}) || !number.Are(numbers) {
		t.Error("one of nothing, or of numbers, is none")
	}
	for _, x := range noNumbers {
		for k := range len(numbers) + 1 {
			if list := slices.Insert(slices.Clone(numbers), k, x); number.Are(list) {
				t.Errorf("%v: one is no number", list)
			}
		}
	}
}
