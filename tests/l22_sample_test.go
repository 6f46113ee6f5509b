package tests

import (
	"math"
	"slices"
	"testing"

	"loop.example/g03008/impl"
)

// samplesOf are samples, each given as its Id, its Weight and its Worth.
func samplesOf(triples ...[3]int) []impl.Sample {
	l := []impl.Sample{}
	for _, s := range triples {
		l = append(l, impl.Sample{Id: s[0], Weight: s[1], Worth: s[2]})
	}
	return l
}

// alike are so many samples of the same weight and the same worth.
func alike(count int, weight int, worth int) []impl.Sample {
	l := []impl.Sample{}
	for i := range count {
		l = append(l, impl.Sample{Id: 1 + 3*i, Weight: weight, Worth: worth})
	}
	return l
}

// chosen are the samples at the places whose bits are set.
func chosen(l []impl.Sample, choice int) []impl.Sample {
	return slices.Collect(func(yield func(impl.Sample) bool) {
		for i, s := range l {
			if choice>>i&1 == 1 && !yield(s) {
				return
			}
		}
	})
}

func sampleIds(l []impl.Sample) []int {
	ids := []int{}
	for _, s := range l {
		ids = append(ids, s.Id)
	}
	return ids
}

// weightAndWorth are the sums of samples.
func weightAndWorth(l []impl.Sample) (int, int) {
	weight, worth := 0, 0
	for _, s := range l {
		weight += s.Weight
		worth += s.Worth
	}
	return weight, worth
}

// bestLoadOf is BestLoad of valid samples, told by every choice of them. In the
// order of the choices as numbers, one without the last sample comes before all
// that have it, and likewise for the samples before it; so the first one that is
// worth most is the one that is asked for.
func bestLoadOf(l []impl.Sample, most int) []int {
	best, bestWorth := []int{}, -1
	for choice := range 1 << len(l) {
		load := chosen(l, choice)
		if weight, worth := weightAndWorth(load); weight <= most && worth > bestWorth {
			best, bestWorth = sampleIds(load), worth
		}
	}
	return best
}

// greedyLoadOf is GreedyLoad of valid samples.
func greedyLoadOf(l []impl.Sample, most int) []int {
	load := []impl.Sample{}
	for _, s := range l {
		if weight, _ := weightAndWorth(append(load, s)); weight <= most {
			load = append(load, s)
		}
	}
	return sampleIds(load)
}

// strewnSamples are so many, of which the weights and worths are of so many
// kinds.
func strewnSamples(throw func(sides int) int, count int, weights int, worths int) []impl.Sample {
	l, id := []impl.Sample{}, 0
	for range count {
		id += 1 + throw(8)
		l = append(l, impl.Sample{Id: id, Weight: 1 + throw(weights), Worth: throw(worths)})
	}
	return l
}

// The samples that the tests have.
var (
	stones  = samplesOf([3]int{1, 10, 60}, [3]int{2, 20, 100}, [3]int{3, 30, 120}, [3]int{4, 5, 0})
	heavy   = samplesOf([3]int{2, 50, 1000}, [3]int{9, 50, 999}, [3]int{40, 49, 1000}, [3]int{99, 1, 1})
	thirds  = alike(3, 5, 9)
	dozen   = alike(12, 50, 1000)
	misled  = samplesOf([3]int{5, 30, 10}, [3]int{6, 20, 90}, [3]int{7, 15, 80})
	nothing = alike(4, 3, 0)
)

var namedSamples = [][]impl.Sample{stones, heavy, thirds, dozen, misled, nothing, samplesOf([3]int{1, 1, 0}), samplesOf([3]int{99, 50, 1000})}

// badSamples are not valid, most of them for one reason.
func badSamples() [][]impl.Sample {
	lists := [][]impl.Sample{
		make([]impl.Sample, 1),
		make([]impl.Sample, 12),
		make([]impl.Sample, 13),
		alike(13, 5, 9),
		alike(33, 5, 9),
		make([]impl.Sample, 10000),
		samplesOf([3]int{1, 5, 9}, [3]int{1, 5, 9}),
		samplesOf([3]int{2, 5, 9}, [3]int{1, 5, 9}),
		samplesOf([3]int{1, 5, 9}, [3]int{3, 5, 9}, [3]int{2, 5, 9}),
		samplesOf([3]int{1, 5, 9}, [3]int{3, 5, 9}, [3]int{3, 6, 9}),
		samplesOf([3]int{1, 5, 9}, [3]int{3, 5, 9}, [3]int{1, 5, 9}),
		samplesOf([3]int{99, 5, 9}, [3]int{98, 5, 9}),
		samplesOf([3]int{99, 5, 9}, [3]int{100, 5, 9}),
	}
	for _, good := range [][]impl.Sample{stones, heavy, {{Id: 7, Weight: 5, Worth: 9}}} {
		for i := range good {
			for _, spoil := range []func(s *impl.Sample){
				func(s *impl.Sample) { s.Id = 0 },
				func(s *impl.Sample) { s.Id = -1 },
				func(s *impl.Sample) { s.Id = 100 },
				func(s *impl.Sample) { s.Id = math.MaxInt },
				func(s *impl.Sample) { s.Id = math.MinInt },
				func(s *impl.Sample) { s.Weight = 0 },
				func(s *impl.Sample) { s.Weight = -1 },
				func(s *impl.Sample) { s.Weight = 51 },
				func(s *impl.Sample) { s.Weight = math.MaxInt },
				func(s *impl.Sample) { s.Weight = math.MinInt },
				func(s *impl.Sample) { s.Worth = -1 },
				func(s *impl.Sample) { s.Worth = 1001 },
				func(s *impl.Sample) { s.Worth = math.MaxInt },
				func(s *impl.Sample) { s.Worth = math.MinInt },
			} {
				l := slices.Clone(good)
				spoil(&l[i])
				lists = append(lists, l)
			}
		}
	}
	return lists
}

// checkLoads checks the two loads, and what the best one is worth.
func checkLoads(t *testing.T, name string, l []impl.Sample, most int, best []int, greedy []int) {
	t.Helper()
	worth := 0
	for _, s := range l {
		if slices.Contains(best, s.Id) {
			worth += s.Worth
		}
	}
	if got := impl.BestLoad(l, most); !slices.Equal(got, best) {
		t.Errorf("%s: BestLoad(%v, %d) is %v, not %v", name, l, most, got, best)
	}
	if got := impl.BestWorth(l, most); got != worth {
		t.Errorf("%s: BestWorth(%v, %d) is %d, not %d", name, l, most, got, worth)
	}
	if got := impl.GreedyLoad(l, most); !slices.Equal(got, greedy) {
		t.Errorf("%s: GreedyLoad(%v, %d) is %v, not %v", name, l, most, got, greedy)
	}
}

func TestAreSamples(t *testing.T) {
	for _, l := range append(namedSamples, nil, []impl.Sample{}, alike(11, 1, 0), stones[1:], stones[2:3]) {
		if !impl.AreSamples(l) {
			t.Errorf("AreSamples(%v) is false", l)
		}
	}
	for _, l := range badSamples() {
		if impl.AreSamples(l) {
			t.Errorf("AreSamples of %d samples, %v at first, is true", len(l), l[:min(len(l), 4)])
		}
	}
}

func TestAreSamplesOfEachNumber(t *testing.T) {
	for n := -3; n <= 1005; n++ {
		for _, c := range []struct {
			s    impl.Sample
			want bool
		}{
			{impl.Sample{Id: n, Weight: 5, Worth: 9}, 1 <= n && n <= 99},
			{impl.Sample{Id: 3, Weight: n, Worth: 9}, 1 <= n && n <= 50},
			{impl.Sample{Id: 3, Weight: 5, Worth: n}, 0 <= n && n <= 1000},
		} {
			if got := impl.AreSamples([]impl.Sample{c.s}); got != c.want {
				t.Errorf("AreSamples of %v is %v", c.s, got)
			}
		}
	}
	for count := range 33 {
		if got := impl.AreSamples(alike(count, 5, 9)); got != (count <= 12) {
			t.Errorf("AreSamples of %d samples is %v", count, got)
		}
	}
}

func TestWeightAndWorthOfIds(t *testing.T) {
	twice := samplesOf([3]int{3, 5, 9}, [3]int{3, 7, 1}, [3]int{4, 1, 1}, [3]int{3, 20, 30})
	for _, c := range []struct {
		name          string
		l             []impl.Sample
		ids           []int
		weight, worth int
	}{
		{"some", stones, []int{1, 3}, 40, 180},
		{"some in another order", stones, []int{3, 1}, 40, 180},
		{"all", stones, []int{1, 2, 3, 4}, 65, 280},
		{"one", stones, []int{2}, 20, 100},
		{"one that is worth nothing", stones, []int{4}, 5, 0},
		{"none", stones, nil, 0, 0},
		{"none, empty", stones, []int{}, 0, 0},
		{"one twice", stones, []int{2, 2}, 20, 100},
		{"one twice, and others", stones, []int{2, 1, 2, 1, 2}, 30, 160},
		{"nobody's Id", stones, []int{9}, 0, 0},
		{"nobody's Ids, and others", stones, []int{9, 1, 0, -1, 2, 100}, 30, 160},
		{"places and no Ids", heavy, []int{0, 1, 2, 3}, 50, 1000},
		{"the greatest and the least int", stones, []int{math.MaxInt, 1, math.MinInt}, 10, 60},
		{"of no samples", nil, []int{1, 2}, 0, 0},
		{"of no samples, none", nil, nil, 0, 0},
		{"two samples with an Id", twice, []int{3}, 32, 40},
		{"two samples with an Id, which is there twice", twice, []int{3, 3, 4}, 33, 41},
		{"Ids below 1", samplesOf([3]int{0, 5, 9}, [3]int{-7, 6, 1}), []int{-7, 0}, 11, 10},
		{"weights and worths below 0", samplesOf([3]int{1, -5, -9}, [3]int{2, 3, 4}), []int{1, 2}, -2, -5},
		{"sums that wrap around", samplesOf([3]int{1, math.MaxInt, math.MinInt}, [3]int{2, 1, -1}), []int{1, 2}, math.MinInt, math.MaxInt},
		{"sums that wrap around and back", samplesOf([3]int{1, math.MaxInt, math.MinInt}, [3]int{2, 1, -1}, [3]int{3, math.MinInt, 5}), []int{1, 2, 3}, 0, math.MinInt + 4},
		{"far too many samples", slices.Repeat(stones, 100), []int{1, 4}, 1500, 6000},
	} {
		if got := impl.WeightOf(c.l, c.ids); got != c.weight {
			t.Errorf("%s: WeightOf(%v, %v) is %d, not %d", c.name, c.l, c.ids, got, c.weight)
		}
		if got := impl.WorthOf(c.l, c.ids); got != c.worth {
			t.Errorf("%s: WorthOf(%v, %v) is %d, not %d", c.name, c.l, c.ids, got, c.worth)
		}
	}
}

func TestWeightAndWorthOfEveryChoice(t *testing.T) {
	for _, l := range [][]impl.Sample{stones, heavy, misled, strewnSamples(dice(), 10, 50, 1001)} {
		for choice := range 1 << len(l) {
			load := chosen(l, choice)
			weight, worth := weightAndWorth(load)
			ids := sampleIds(load)
			slices.Reverse(ids)
			if gotWeight, gotWorth := impl.WeightOf(l, ids), impl.WorthOf(l, ids); gotWeight != weight || gotWorth != worth {
				t.Errorf("%v of %v weigh %d and are worth %d, not %d and %d", ids, l, gotWeight, gotWorth, weight, worth)
			}
		}
	}
}

func TestLoads(t *testing.T) {
	firstOf := func(l []impl.Sample, count int) []int { return sampleIds(l[:count]) }
	for _, c := range []struct {
		name         string
		l            []impl.Sample
		most         int
		best, greedy []int
	}{
		{"the greedy load is worth less", stones, 50, []int{2, 3}, []int{1, 2, 4}},
		{"the greedy load is worth less, as it takes a heavy one first", misled, 35, []int{6, 7}, []int{5}},
		{"the greedy load has what is worth nothing", stones, 35, []int{1, 2}, []int{1, 2, 4}},
		{"just one sample's weight", stones, 20, []int{2}, []int{1, 4}},
		{"just one sample's weight, the lightest", stones, 10, []int{1}, []int{1}},
		{"one less than two samples' weight", stones, 29, []int{2}, []int{1, 4}},
		{"just two samples' weight", stones, 30, []int{1, 2}, []int{1, 2}},
		{"just all weights that are worth something", stones, 60, []int{1, 2, 3}, []int{1, 2, 3}},
		{"one less than these", stones, 59, []int{2, 3}, []int{1, 2, 4}},
		{"just all weights", stones, 65, []int{1, 2, 3}, []int{1, 2, 3, 4}},
		{"less than what is worth something", stones, 9, nil, []int{4}},
		{"less than all", stones, 4, nil, nil},
		{"no weight", stones, 0, nil, nil},
		{"the greatest weight that may be", stones, 1000, []int{1, 2, 3}, []int{1, 2, 3, 4}},
		{"beyond the greatest weight", stones, 1001, nil, nil},
		{"a weight below 0", stones, -1, nil, nil},
		{"the greatest int", stones, math.MaxInt, nil, nil},
		{"the least int", stones, math.MinInt, nil, nil},
		{"of the same, the last ones are left out", thirds, 10, firstOf(thirds, 2), firstOf(thirds, 2)},
		{"of the same, all but one are left out", thirds, 9, firstOf(thirds, 1), firstOf(thirds, 1)},
		{"of the same, none is left out", thirds, 15, firstOf(thirds, 3), firstOf(thirds, 3)},
		{"of the same worth, the last one is left out, though it is lighter", samplesOf([3]int{1, 9, 5}, [3]int{2, 3, 5}), 9, []int{1}, []int{1}},
		{"of the same worth, the last two are left out", samplesOf([3]int{1, 9, 10}, [3]int{2, 4, 5}, [3]int{3, 5, 5}), 9, []int{1}, []int{1}},
		{"of the same worth, the last one is left out, and not the one before", samplesOf([3]int{1, 4, 5}, [3]int{2, 5, 5}, [3]int{3, 9, 10}), 9, []int{1, 2}, []int{1, 2}},
		{"of the same worth, the last one cannot be left out", samplesOf([3]int{1, 4, 5}, [3]int{2, 4, 5}, [3]int{3, 4, 7}), 8, []int{1, 3}, []int{1, 2}},
		{"of the same worth, one amid others is left out", samplesOf([3]int{1, 4, 3}, [3]int{2, 4, 3}, [3]int{3, 4, 8}, [3]int{4, 4, 9}), 12, []int{1, 3, 4}, []int{1, 2, 3}},
		{"all are worth nothing", nothing, 9, nil, firstOf(nothing, 3)},
		{"some are worth nothing", samplesOf([3]int{1, 1, 0}, [3]int{2, 1, 7}, [3]int{3, 1, 0}), 3, []int{2}, []int{1, 2, 3}},
		{"twelve, all of them", dozen, 600, firstOf(dozen, 12), firstOf(dozen, 12)},
		{"twelve, one too much", dozen, 599, firstOf(dozen, 11), firstOf(dozen, 11)},
		{"twelve, one of them", dozen, 99, firstOf(dozen, 1), firstOf(dozen, 1)},
		{"the greatest Ids, weights and worths", heavy, 99, []int{2, 40}, []int{2, 40}},
		{"the greatest Ids, weights and worths, and one more", heavy, 100, []int{2, 40, 99}, []int{2, 9}},
		{"no samples", nil, 50, nil, nil},
		{"no samples, empty", []impl.Sample{}, 50, nil, nil},
		{"no samples, no weight", nil, 0, nil, nil},
		{"thirteen samples", alike(13, 5, 9), 50, nil, nil},
		{"an Id twice", samplesOf([3]int{1, 5, 9}, [3]int{1, 5, 9}), 50, nil, nil},
		{"not ascending", samplesOf([3]int{2, 5, 9}, [3]int{1, 5, 9}), 50, nil, nil},
	} {
		checkLoads(t, c.name, c.l, c.most, c.best, c.greedy)
	}
}

// allSamples are all lists of so many samples with weights of 1 and 2 and worths
// of 0 to 2.
func allSamples(count int) [][]impl.Sample {
	lists := [][]impl.Sample{{}}
	for id := 1; id <= count; id++ {
		longer := [][]impl.Sample{}
		for _, l := range lists {
			for kind := range 6 {
				longer = append(longer, append(slices.Clone(l), impl.Sample{Id: id, Weight: 1 + kind%2, Worth: kind / 2}))
			}
		}
		lists = longer
	}
	return lists
}

func TestLoadsOfEveryFewSamples(t *testing.T) {
	for count := range 5 {
		for _, l := range allSamples(count) {
			for most := range 2*count + 2 {
				checkLoads(t, "few", l, most, bestLoadOf(l, most), greedyLoadOf(l, most))
			}
		}
	}
}

func TestNoOtherLoadIsWorthMore(t *testing.T) {
	throw := dice()
	better, same := 0, 0
	for count := range 13 {
		for _, kinds := range [][2]int{{50, 1001}, {50, 4}, {5, 1001}, {4, 3}, {1, 2}, {1, 1001}, {50, 1}} {
			l := strewnSamples(throw, count, kinds[0], kinds[1])
			weight, _ := weightAndWorth(l)
			for _, most := range []int{0, throw(weight + 1), throw(weight + 1), weight} {
				best, greedy := bestLoadOf(l, most), greedyLoadOf(l, most)
				checkLoads(t, "strewn", l, most, best, greedy)
				if got := impl.WeightOf(l, impl.BestLoad(l, most)); got > most {
					t.Errorf("BestLoad(%v, %d) weighs %d", l, most, got)
				}
				if impl.WorthOf(l, best) > impl.WorthOf(l, greedy) {
					better++
				} else {
					same++
				}
			}
		}
	}
	if better < 50 || same < 50 {
		t.Errorf("%d times the best load was worth more than the greedy one, and %d times it was not", better, same)
	}
}

func TestEachMostOfALoad(t *testing.T) {
	throw := dice()
	for _, l := range append(namedSamples, strewnSamples(throw, 6, 50, 9), strewnSamples(throw, 5, 50, 1001)) {
		if len(l) > 6 {
			continue
		}
		for most := -2; most <= 1003; most++ {
			if most < 0 || most > 1000 {
				checkLoads(t, "out of range", l, most, nil, nil)
				continue
			}
			checkLoads(t, "in range", l, most, bestLoadOf(l, most), greedyLoadOf(l, most))
		}
	}
}

func TestBadSamplesAreNotLoaded(t *testing.T) {
	for _, l := range badSamples() {
		for _, most := range []int{-1, 0, 5, 60, 1000, 1001, math.MaxInt, math.MinInt} {
			checkLoads(t, "bad samples", l, most, nil, nil)
		}
	}
}

func TestSamplesStayAsTheyWere(t *testing.T) {
	for _, samples := range append(badSamples(), append(namedSamples, nil)...) {
		l, ids := guard(samples...), guard(3, 1, 9, 3)
		for _, most := range []int{-1, 0, 30, 600, 1000} {
			checkOwnMemory(t, "BestLoad", l, func() []int { return impl.BestLoad(l.list, most) })
			checkOwnMemory(t, "GreedyLoad", l, func() []int { return impl.GreedyLoad(l.list, most) })
			impl.BestWorth(l.list, most)
		}
		impl.AreSamples(l.list)
		impl.WeightOf(l.list, ids.list)
		impl.WorthOf(l.list, ids.list)
		l.check(t, "the functions of samples")
		ids.check(t, "WeightOf and WorthOf")
	}
}

func TestSamplesKeepNoState(t *testing.T) {
	l := slices.Clone(stones)
	first := impl.BestLoad(l, 50)
	l[0].Worth = 1000
	second := impl.BestLoad(l, 50)
	l[0].Id = 5
	third := impl.BestLoad(l, 50)
	if !slices.Equal(first, []int{2, 3}) || !slices.Equal(second, []int{1, 3}) || len(third) != 0 {
		t.Errorf("while the samples change, BestLoad is %v, %v and %v", first, second, third)
	}
}
