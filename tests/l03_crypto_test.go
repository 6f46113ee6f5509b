package tests

import (
	"math"
	"testing"

	"loop.example/g03008/impl"
)

func TestEqualInts(t *testing.T) {
	checkEquality(t, "EqualInts", impl.EqualInts,
		[][]int{{0}, {1}, {-1}, {0, 0}, {1, 0}, {1, 2}, {2, 1}, {1, 2, 3}, {1, 2, 4}, {0, 2, 3}, {256}, {1 << 32}, {math.MaxInt}, {math.MinInt}}...)
}

func TestEqualIntsLeavesArguments(t *testing.T) {
	for _, list := range [][]int{{}, {1}, {3, 1, 2}} {
		a, b := guard(list...), guard(3, 1, 2)
		impl.EqualInts(a.list, b.list)
		a.check(t, "EqualInts, first")
		b.check(t, "EqualInts, second")
	}
}
