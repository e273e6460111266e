// Package number tells what a number is (chapter 1), for the layers that ask it.
package number

import (
	"math"
	"slices"
)

// Is tells whether x has 32 bits.
func Is(x int) bool {
	return x >= math.MinInt32 && x <= math.MaxInt32
}

// Are tells whether all of list are numbers.
func Are(list []int) bool {
	return !slices.ContainsFunc(list, func(x int) bool { return !Is(x) })
}
