package tests

import (
	"math"
	"slices"
	"testing"

	"loop.example/g03008/impl"
)

// at tells whether the choice has the index.
func at(choice int, i int) bool {
	return choice>>i&1 == 1
}

// sumOfChoice is the sum of the weights whose bits are set.
func sumOfChoice(weights []int, choice int) int {
	sum := 0
	for i, w := range weights {
		if at(choice, i) {
			sum += w
		}
	}
	return sum
}

// indicesOf are those of a choice.
func indicesOf(choice int) []int {
	indices := []int{}
	for i := 0; choice>>i > 0; i++ {
		if at(choice, i) {
			indices = append(indices, i)
		}
	}
	return indices
}

// gapOf is the difference of both sums of valid weights.
func gapOf(weights []int, choice int) int {
	difference := 2*sumOfChoice(weights, choice) - totalOf(weights)
	return max(difference, -difference)
}

// isPreferred tells of two choices whether the first index that is in just one
// of both is in the first one.
func isPreferred(a int, b int) bool {
	for i := 0; i < 20; i++ {
		if at(a, i) != at(b, i) {
			return at(a, i)
		}
	}
	return false
}

// bestSplitOf is BestSplit of valid weights, told by every choice.
func bestSplitOf(weights []int) []int {
	best := 0
	for choice := range 1 << len(weights) {
		gap, least := gapOf(weights, choice), gapOf(weights, best)
		if gap < least || gap == least && isPreferred(choice, best) {
			best = choice
		}
	}
	return indicesOf(best)
}

// heaviestFirstOf is HeaviestFirst.
func heaviestFirstOf(weights []int) []int {
	order := []int{}
	for i := range weights {
		place := 0
		for place < len(order) && weights[order[place]] >= weights[i] {
			place++
		}
		order = slices.Insert(order, place, i)
	}
	return order
}

// strewnWeights are so many, from 1 to a greatest one.
func strewnWeights(throw func(sides int) int, count int, most int) []int {
	weights := []int{}
	for range count {
		weights = append(weights, 1+throw(most))
	}
	return weights
}

// badWeights are not valid, most of them for one reason.
func badWeights() [][]int {
	lists := [][]int{
		make([]int, 1),
		make([]int, 12),
		make([]int, 13),
		slices.Repeat([]int{5}, 13),
		slices.Repeat([]int{5}, 14),
		slices.Repeat([]int{1}, 70),
		make([]int, 10000),
	}
	for _, good := range [][]int{{7}, {3, 4, 5}, slices.Repeat([]int{50}, 12)} {
		for _, i := range []int{0, len(good) / 2, len(good) - 1} {
			for _, w := range []int{0, -1, -100, 101, 102, 1 << 32, 1<<32 + 5, math.MaxInt, math.MinInt, math.MinInt + 5} {
				weights := slices.Clone(good)
				weights[i] = w
				lists = append(lists, weights)
			}
		}
	}
	return lists
}

func checkSplit(t *testing.T, name string, weights []int, want []int) {
	t.Helper()
	if got := impl.BestSplit(weights); !slices.Equal(got, want) {
		t.Errorf("%s: BestSplit(%v) is %v, not %v", name, weights, got, want)
	}
}

func checkSplitGap(t *testing.T, name string, weights []int, first []int, want int) {
	t.Helper()
	if got := impl.SplitGap(weights, first); got != want {
		t.Errorf("%s: SplitGap(%v, %v) is %d, not %d", name, weights, first, got, want)
	}
}

func checkSumAt(t *testing.T, name string, weights []int, indices []int, want int) {
	t.Helper()
	if got := impl.SumAt(weights, indices); got != want {
		t.Errorf("%s: SumAt(%v, %v) is %d, not %d", name, weights, indices, got, want)
	}
}

func checkReach(t *testing.T, name string, weights []int, sum int, want bool) {
	t.Helper()
	if got := impl.CanReach(weights, sum); got != want {
		t.Errorf("%s: CanReach(%v, %d) is %v", name, weights, sum, got)
	}
}

func checkHeaviest(t *testing.T, name string, weights []int, want []int) {
	t.Helper()
	if got := impl.HeaviestFirst(weights); !slices.Equal(got, want) {
		t.Errorf("%s: HeaviestFirst(%v) is %v, not %v", name, weights, got, want)
	}
}

func TestBestSplit(t *testing.T) {
	for _, c := range []struct {
		name    string
		weights []int
		want    []int
		gap     int
	}{
		{"just even", []int{8, 7, 6, 5, 4}, []int{0, 1}, 0},
		{"nearly even", []int{8, 7, 6, 5, 5}, []int{0, 1}, 1},
		{"two that are the same", []int{3, 3}, []int{0}, 0},
		{"two, the second one heavier", []int{3, 5}, []int{0}, 2},
		{"two, the first one heavier", []int{5, 3}, []int{0}, 2},
		{"one", []int{9}, []int{0}, 9},
		{"one, the lightest", []int{1}, []int{0}, 1},
		{"one, the heaviest", []int{100}, []int{0}, 100},
		{"one against all others", []int{1, 2, 9}, []int{0, 1}, 6},
		{"one against all others, the first", []int{9, 1, 2}, []int{0}, 6},
		{"three that are the same", []int{5, 5, 5}, []int{0, 1}, 5},
		{"four that are the same", []int{5, 5, 5, 5}, []int{0, 1}, 0},
		{"five that are the same", []int{7, 7, 7, 7, 7}, []int{0, 1, 2}, 7},
		{"as even as one another, the second index decides", []int{4, 2, 2, 4}, []int{0, 1}, 0},
		{"as even as one another, the third index decides", []int{7, 8, 3, 3}, []int{0, 2}, 1},
		{"as even as one another, fewer with the second index", []int{1, 4, 1, 2, 2}, []int{0, 1}, 0},
		{"as even as one another, more with the second index", []int{2, 1, 1, 2}, []int{0, 1}, 0},
		{"even by the first and the last", []int{1, 2, 3, 4}, []int{0, 3}, 0},
		{"even by the first, the second and the last", []int{1, 1, 3, 3, 4}, []int{0, 1, 4}, 0},
		{"the heaviest ones", []int{100, 99, 98, 97}, []int{0, 3}, 0},
		{"the heaviest and the lightest ones", []int{100, 1, 1, 100}, []int{0, 1}, 0},
		{"twelve", []int{1, 2, 3, 4, 5, 6, 7, 8, 9, 10, 11, 12}, []int{0, 1, 2, 3, 4, 5, 6, 10}, 0},
		{"twelve that are the same", slices.Repeat([]int{100}, 12), []int{0, 1, 2, 3, 4, 5}, 0},
		{"twelve, each as heavy as all before", []int{1, 1, 2, 4, 8, 16, 32, 64, 64, 64, 64, 64}, []int{0, 1, 2, 3, 4, 5, 6, 7, 8}, 0},
		{"none", nil, nil, 0},
		{"none, empty", []int{}, nil, 0},
	} {
		checkSplit(t, c.name, c.weights, c.want)
		checkSplitGap(t, c.name, c.weights, c.want, c.gap)
	}
	for _, weights := range [][]int{{0, 5}, {5, 0}, {0}, {101}, {5, 101}, {-5}, {5, -5}, make([]int, 13), slices.Repeat([]int{5}, 13)} {
		checkSplit(t, "weights that are none", weights, nil)
	}
}

func TestNoOtherSplitIsMoreEven(t *testing.T) {
	for count := range 6 {
		for _, weights := range listsOf(count, 1, 2, 3, 5, 100) {
			checkSplit(t, "each list", weights, bestSplitOf(weights))
		}
	}
	throw := dice()
	even, uneven := 0, 0
	for count := range 13 {
		for _, most := range []int{1, 2, 3, 10, 100} {
			for range 6 {
				weights := strewnWeights(throw, count, most)
				checkSplit(t, "strewn", weights, bestSplitOf(weights))
				split := impl.BestSplit(weights)
				gap := impl.SplitGap(weights, split)
				for range 20 {
					choice := throw(1 << count)
					if other := impl.SplitGap(weights, indicesOf(choice)); other < gap {
						t.Errorf("%v of %v leave a gap of %d, and %v of %d", split, weights, gap, indicesOf(choice), other)
					}
				}
				if count > 0 && split[0] != 0 {
					t.Errorf("the first of %v is on the second sledge", weights)
				}
				if gap == 0 {
					even++
				} else {
					uneven++
				}
			}
		}
	}
	if even < 100 || uneven < 100 {
		t.Errorf("%d lists can be halved, %d cannot", even, uneven)
	}
}

func TestWeightsOfEachNumber(t *testing.T) {
	for w := -5; w <= 300; w++ {
		isValid := 1 <= w && w <= 100
		for _, weights := range [][]int{{w}, {3, w}, {w, 3}, {3, w, 4}} {
			want := []int{}
			if isValid {
				want = bestSplitOf(weights)
			}
			checkSplit(t, "each weight", weights, want)
			checkReach(t, "each weight", weights, w, isValid)
			checkReach(t, "each weight, none of them", weights, 0, isValid)
		}
	}
	for count := range 20 {
		weights := slices.Repeat([]int{2}, count)
		want := indicesOf(1<<((count+1)/2) - 1)
		if count > 12 {
			want = nil
		}
		checkSplit(t, "each number of weights", weights, want)
		checkReach(t, "each number of weights", weights, 2*count, count <= 12)
		checkReach(t, "each number of weights, none of them", weights, 0, count <= 12)
	}
}

func TestSumAtAndSplitGap(t *testing.T) {
	three := []int{3, 4, 5}
	for _, c := range []struct {
		name     string
		weights  []int
		indices  []int
		sum, gap int
	}{
		{"one", three, []int{1}, 4, 4},
		{"two", three, []int{0, 2}, 8, 4},
		{"two in the other order", three, []int{2, 0}, 8, 4},
		{"all", three, []int{0, 1, 2}, 12, 12},
		{"none", three, nil, 0, 12},
		{"none, empty", three, []int{}, 0, 12},
		{"an index twice", three, []int{1, 1}, 4, 4},
		{"indices twice and three times", three, []int{2, 0, 2, 0, 2}, 8, 4},
		{"an index that is none", three, []int{1, 9}, 4, 4},
		{"an index behind the last one", three, []int{3}, 0, 12},
		{"an index below 0", three, []int{-1}, 0, 12},
		{"indices that are none, twice", three, []int{-1, 7, 2, -1, 7}, 5, 2},
		{"the greatest and the least int", three, []int{math.MaxInt, 0, math.MinInt}, 3, 6},
		{"of no weights", nil, []int{0, 1}, 0, 0},
		{"of no weights, none", nil, nil, 0, 0},
		{"the second sledge is heavier", []int{1, 10}, []int{0}, 1, 9},
		{"the first sledge is heavier", []int{10, 1}, []int{0}, 10, 9},
		{"weights of 0", []int{0, 0, 7}, []int{0, 1}, 0, 7},
		{"weights below 0", []int{-3, 4, -5}, []int{0, 1}, 1, 6},
		{"weights below 0 alone", []int{-3, -4}, []int{0}, -3, 1},
		{"more than twelve weights", slices.Repeat([]int{200}, 50), []int{0, 49, 50, 7}, 600, 9400 - 600},
		{"the greatest int", []int{math.MaxInt, 1}, []int{0}, math.MaxInt, math.MaxInt - 1},
		{"the greatest int on the second sledge", []int{math.MaxInt, 1}, []int{1}, 1, math.MaxInt - 1},
		{"the greatest int alone", []int{math.MaxInt}, []int{0}, math.MaxInt, math.MaxInt},
		{"nearly the least int alone", []int{math.MinInt + 1}, nil, 0, math.MaxInt},
		{"a sum that wraps around", []int{math.MaxInt, 1}, []int{0, 1}, math.MinInt, math.MinInt},
		{"a sum that wraps around and back", []int{math.MaxInt, 1, math.MinInt, 6}, []int{0, 1, 2}, 0, 6},
		{"sums of both that wrap around", []int{math.MaxInt, math.MaxInt, 1, 1}, []int{0, 1}, -2, 4},
		{"a difference that wraps around", []int{math.MaxInt, math.MinInt}, []int{0}, math.MaxInt, 1},
		{"a difference that wraps around, on the second sledge", []int{math.MaxInt, math.MinInt}, []int{1}, math.MinInt, 1},
		{"a difference that wraps around to below 0", []int{math.MaxInt, -5}, []int{0}, math.MaxInt, math.MaxInt - 3},
		// The difference wraps around to the least int, which has no positive
		// counterpart.
		{"the least int", []int{math.MinInt}, []int{0}, math.MinInt, math.MinInt},
		{"the least int on the second sledge", []int{math.MinInt}, nil, 0, math.MinInt},
	} {
		checkSumAt(t, c.name, c.weights, c.indices, c.sum)
		checkSplitGap(t, c.name, c.weights, c.indices, c.gap)
	}
}

func TestSumAtAndSplitGapOfEveryChoice(t *testing.T) {
	throw := dice()
	for count := range 9 {
		weights := strewnWeights(throw, count, 300)
		for choice := range 1 << count {
			indices := indicesOf(choice)
			slices.Reverse(indices)
			indices = append(indices, indices...)
			checkSumAt(t, "each choice", weights, indices, sumOfChoice(weights, choice))
			checkSplitGap(t, "each choice", weights, indices, gapOf(weights, choice))
		}
	}
}

func TestCanReach(t *testing.T) {
	three := []int{3, 4, 5}
	for sum := -20; sum <= 30; sum++ {
		checkReach(t, "three", three, sum, slices.Contains([]int{0, 3, 4, 5, 7, 8, 9, 12}, sum))
		checkReach(t, "no weights", nil, sum, sum == 0)
		checkReach(t, "no weights, empty", []int{}, sum, sum == 0)
		checkReach(t, "one weight", []int{7}, sum, sum == 0 || sum == 7)
	}
	for _, sum := range []int{math.MaxInt, math.MinInt, math.MinInt + 3, 1 << 32, 1<<32 + 3} {
		checkReach(t, "no sum", three, sum, false)
		checkReach(t, "no sum of no weights", nil, sum, false)
	}
	dozen := slices.Repeat([]int{100}, 12)
	for sum := -1; sum <= 1300; sum++ {
		checkReach(t, "twelve", dozen, sum, 0 <= sum && sum <= 1200 && sum%100 == 0)
	}
}

func TestCanReachIsHeldAgainstEveryChoice(t *testing.T) {
	throw := dice()
	can, cannot := 0, 0
	for count := range 13 {
		for _, most := range []int{2, 9, 100} {
			weights := strewnWeights(throw, count, most)
			sums := map[int]bool{}
			for choice := range 1 << count {
				sums[sumOfChoice(weights, choice)] = true
			}
			for sum := -1; sum <= totalOf(weights)+1; sum++ {
				checkReach(t, "strewn", weights, sum, sums[sum])
				if sums[sum] {
					can++
				} else {
					cannot++
				}
			}
		}
	}
	if can < 500 || cannot < 500 {
		t.Errorf("%d sums can be reached, %d cannot", can, cannot)
	}
}

func TestHeaviestFirst(t *testing.T) {
	for _, c := range []struct {
		name    string
		weights []int
		want    []int
	}{
		{"some", []int{3, 9, 3, 10}, []int{3, 1, 0, 2}},
		{"in order", []int{9, 8, 7}, []int{0, 1, 2}},
		{"in the other order", []int{7, 8, 9}, []int{2, 1, 0}},
		{"all the same", []int{5, 5, 5, 5, 5}, []int{0, 1, 2, 3, 4}},
		{"two that are the same, the heaviest", []int{1, 6, 2, 6}, []int{1, 3, 2, 0}},
		{"one", []int{4}, []int{0}},
		{"none", nil, nil},
		{"none, empty", []int{}, nil},
		{"weights of 0 and below", []int{0, -3, 0, -1, 4}, []int{4, 0, 2, 3, 1}},
		{"more than a sledge carries", []int{101, 5000, 101}, []int{1, 0, 2}},
		{"the greatest and the least int", []int{math.MinInt, 0, math.MaxInt, math.MinInt, math.MaxInt, -1}, []int{2, 4, 1, 5, 0, 3}},
		{"more than twelve", slices.Repeat([]int{1, 2}, 10), []int{1, 3, 5, 7, 9, 11, 13, 15, 17, 19, 0, 2, 4, 6, 8, 10, 12, 14, 16, 18}},
	} {
		checkHeaviest(t, c.name, c.weights, c.want)
	}
	for count := range 7 {
		for _, weights := range listsOf(count, 1, 2, 3, 4) {
			checkHeaviest(t, "each list", weights, heaviestFirstOf(weights))
		}
	}
	throw := dice()
	for _, count := range []int{10, 50, 500} {
		for _, most := range []int{1, 5, 100, 1000000} {
			weights := strewnWeights(throw, count, most)
			checkHeaviest(t, "strewn", weights, heaviestFirstOf(weights))
		}
	}
}

func TestBadWeightsAreNotSplit(t *testing.T) {
	for _, weights := range badWeights() {
		checkSplit(t, "bad weights", weights, nil)
		for _, sum := range []int{0, 1, 3, 5, 7, 12, -1, 101, math.MaxInt, math.MinInt} {
			checkReach(t, "bad weights", weights, sum, false)
		}
		if len(weights) < 1000 {
			checkHeaviest(t, "bad weights", weights, heaviestFirstOf(weights))
		}
	}
}

func TestWeightsStayAsTheyWere(t *testing.T) {
	for _, list := range append(badWeights()[:12], nil, []int{9}, []int{3, 4, 5}, []int{8, 7, 6, 5, 4}, slices.Repeat([]int{50}, 12)) {
		weights, indices := guard(list...), guard(2, 0, 2, 9, -1)
		checkOwnMemory(t, "BestSplit", weights, func() []int { return impl.BestSplit(weights.list) })
		checkOwnMemory(t, "HeaviestFirst", weights, func() []int { return impl.HeaviestFirst(weights.list) })
		impl.SplitGap(weights.list, indices.list)
		impl.SumAt(weights.list, indices.list)
		impl.CanReach(weights.list, 12)
		weights.check(t, "the functions of sledges")
		indices.check(t, "SplitGap and SumAt")
	}
}

func TestWeightsKeepNoState(t *testing.T) {
	weights := []int{8, 7, 6, 5, 4}
	first := impl.BestSplit(weights)
	weights[0] = 1
	second := impl.BestSplit(weights)
	weights[4] = 0
	third := impl.BestSplit(weights)
	if !slices.Equal(first, []int{0, 1}) || !slices.Equal(second, []int{0, 1, 4}) || len(third) != 0 {
		t.Errorf("while the weights change, BestSplit is %v, %v and %v", first, second, third)
	}
}
