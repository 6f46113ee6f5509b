package tests

import (
	"math"
	"slices"
	"strings"
	"testing"

	"loop.example/g03008/impl"
)

// daysOf are all lists of so many days.
func daysOf(n int) [][]bool {
	lists := [][]bool{}
	for storms := range 1 << n {
		days := make([]bool, n)
		for i := range days {
			days[i] = storms>>i&1 == 1
		}
		lists = append(lists, days)
	}
	return lists
}

// mayFollow tells whether each storm of the days may be, behind the past and the
// days before it.
func mayFollow(r impl.Rule, past []bool, days []bool) bool {
	for i, storm := range days {
		if storm && !mayStormOf(r, slices.Concat(past, days[:i])) {
			return false
		}
	}
	return true
}

// countWeathersOf is CountWeathers of a valid rule, told by every list of so many
// days.
func countWeathersOf(r impl.Rule, past []bool, n int) int {
	count := 0
	for _, days := range daysOf(n) {
		if mayFollow(r, past, days) {
			count++
		}
	}
	return count
}

// longestStormOf is LongestStorm of a valid rule.
func longestStormOf(r impl.Rule, past []bool) int {
	storms := 0
	for mayFollow(r, past, slices.Repeat([]bool{true}, storms+1)) {
		storms++
	}
	return storms
}

// thatKeepOf is ThatKeep of a valid rule.
func thatKeepOf(r impl.Rule, past []bool, l [][]bool) int {
	count := 0
	for _, days := range l {
		if keepsOf(r, slices.Concat(past, days)) {
			count++
		}
	}
	return count
}

func checkCount(t *testing.T, name string, r impl.Rule, past []bool, n int, want int) {
	t.Helper()
	if got := impl.CountWeathers(r, past, n); got != want {
		t.Errorf("%s: CountWeathers(%v, %q, %d) is %d, not %d", name, r, drawingOfPast(past), n, got, want)
	}
}

func checkSlowest(t *testing.T, name string, r impl.Rule, past []bool, n int, want int) {
	t.Helper()
	if got := impl.SlowestDays(r, past, n); got != want {
		t.Errorf("%s: SlowestDays(%v, %q, %d) is %d, not %d", name, r, drawingOfPast(past), n, got, want)
	}
}

func checkLongest(t *testing.T, name string, r impl.Rule, past []bool, want int) {
	t.Helper()
	if got := impl.LongestStorm(r, past); got != want {
		t.Errorf("%s: LongestStorm(%v, %q) is %d, not %d", name, r, drawingOfPast(past), got, want)
	}
}

func checkThatKeep(t *testing.T, name string, r impl.Rule, past []bool, l [][]bool, want int) {
	t.Helper()
	if got := impl.ThatKeep(r, past, l); got != want {
		t.Errorf("%s: ThatKeep(%v, %q, %v) is %d, not %d", name, r, drawingOfPast(past), l, got, want)
	}
}

// The rules of the tables beside oneInThree and calm.
var (
	twoInFour = impl.Rule{Most: 2, Window: 4}
	nineInTen = impl.Rule{Most: 9, Window: 10}
	noneInTen = impl.Rule{Most: 0, Window: 10}
)

func TestCountWeathers(t *testing.T) {
	for _, c := range []struct {
		name string
		r    impl.Rule
		past string
		n    int
		want int
	}{
		{"no days", oneInThree, "", 0, 1},
		{"no days behind a storm", oneInThree, "s", 0, 1},
		{"a day", oneInThree, "", 1, 2},
		{"a day on which there may be no storm", oneInThree, "s", 1, 1},
		{"a day behind a storm that is long enough ago", oneInThree, "s..", 1, 2},
		{"two days", oneInThree, "", 2, 3},
		{"three days", oneInThree, "", 3, 4},
		{"three days behind a storm", oneInThree, "s", 3, 2},
		{"three days, the first one without a storm", oneInThree, "s.", 3, 3},
		{"nine days", oneInThree, "", 9, 41},
		{"ten days", oneInThree, "", 10, 60},
		{"ten days behind a storm", oneInThree, "s", 10, 28},
		{"eleven days", oneInThree, "", 11, 0},
		{"days below 0", oneInThree, "", -1, 0},
		{"the greatest int of days", oneInThree, "", math.MaxInt, 0},
		{"the least int of days", oneInThree, "", math.MinInt, 0},
		{"a rule that forbids every storm", noneInTen, "", 10, 1},
		{"a rule that forbids every storm, and there was one", noneInTen, "s", 5, 1},
		{"a window of a day", calm, "", 10, 1},
		{"a window of a day, no days", calm, "", 0, 1},
		{"every weather but one", nineInTen, "", 10, 1023},
		{"every weather", nineInTen, "", 9, 512},
		{"nine storms before", nineInTen, "sssssssss", 1, 1},
		{"nine storms before, two days", nineInTen, "sssssssss", 2, 2},
		{"nine storms before, eleven days ago", nineInTen, "sssssssss..", 9, 512},
		{"a past longer than the window", twoInFour, "ss..ss", 2, 1},
		{"a past longer than the window, three days", twoInFour, "ss..ss", 3, 2},
		{"a past longer than the widest window", twoInFour, strings.Repeat("ss..", 8), 1, 2},
		{"a past that breaks the rule", oneInThree, "ss", 3, 2},
		{"a past that broke the rule long ago", oneInThree, "sss..", 3, 4},
		{"a past of storms", twoInFour, "ssssssss", 2, 1},
		{"a rule that is none", impl.Rule{}, "", 1, 0},
		{"a rule that is none, no days", impl.Rule{}, "", 0, 0},
	} {
		checkCount(t, c.name, c.r, pastOf(c.past), c.n, c.want)
	}
	checkCount(t, "a past that is nil", oneInThree, nil, 4, 6)
	checkCount(t, "a past that is empty", oneInThree, []bool{}, 4, 6)
}

func TestCountWeathersIsHeldAgainstEveryList(t *testing.T) {
	for _, r := range allRules() {
		for past := range allPasts(5) {
			for n := range 6 {
				checkCount(t, "each past", r, past, n, countWeathersOf(r, past, n))
			}
		}
		for _, past := range longPasts() {
			for _, n := range []int{0, 1, 4} {
				checkCount(t, "long pasts", r, past, n, countWeathersOf(r, past, n))
			}
		}
		for n := 6; n <= 10; n++ {
			checkCount(t, "many days", r, nil, n, countWeathersOf(r, nil, n))
		}
	}
}

// Behind a past that keeps the rule, the weathers are the lists that keep it.
func TestWeathersAreTheListsThatKeepTheRule(t *testing.T) {
	both := 0
	for _, r := range allRules() {
		for past := range allPasts(6) {
			if !keepsOf(r, past) {
				continue
			}
			for _, n := range []int{0, 1, 2, 5} {
				count := impl.CountWeathers(r, past, n)
				checkThatKeep(t, "all days", r, past, daysOf(n), count)
				if 1 < count && count < 1<<n {
					both++
				}
			}
		}
	}
	if both < 500 {
		t.Errorf("only %d times were there weathers that keep the rule and others that do not", both)
	}
}

func TestSlowestDays(t *testing.T) {
	for _, c := range []struct {
		name string
		r    impl.Rule
		past string
		n    int
		want int
	}{
		{"no days", oneInThree, "", 0, 0},
		{"no days behind a storm", oneInThree, "s", 0, 0},
		{"a storm, then a day", oneInThree, "", 1, 2},
		{"a storm, then two days", oneInThree, "", 2, 3},
		{"the next storm", oneInThree, "", 3, 5},
		{"four days", oneInThree, "", 4, -1},
		{"days below 0", oneInThree, "", -1, -1},
		{"the greatest int of days", oneInThree, "", math.MaxInt, -1},
		{"the least int of days", oneInThree, "", math.MinInt, -1},
		{"behind a storm", oneInThree, "s", 1, 1},
		{"behind a storm, two days", oneInThree, "s", 2, 2},
		{"behind a storm, the next one", oneInThree, "s", 3, 4},
		{"a day behind a storm", oneInThree, "s.", 2, 3},
		{"three storms before each day", impl.Rule{Most: 3, Window: 4}, "", 2, 8},
		{"nine storms before each day", nineInTen, "", 3, 30},
		{"nine storms in the past", nineInTen, "sssssssss", 3, 21},
		{"a rule that forbids every storm", noneInTen, "", 3, 3},
		{"a rule that forbids every storm, and there was one", noneInTen, "s", 2, 2},
		{"a window of a day", calm, "", 3, 3},
		{"a window of a day, no days", calm, "", 0, 0},
		{"a past longer than the window", twoInFour, "ss..ss", 3, 5},
		{"a past that breaks the rule", oneInThree, "ss", 2, 2},
		{"a past of storms", twoInFour, "ssssssss", 3, 5},
		{"a rule that is none", impl.Rule{}, "", 1, -1},
		{"a rule that is none, no days", impl.Rule{}, "", 0, -1},
	} {
		checkSlowest(t, c.name, c.r, pastOf(c.past), c.n, c.want)
	}
	checkSlowest(t, "a past that is nil", oneInThree, nil, 3, 5)
	checkSlowest(t, "a past that is empty", oneInThree, []bool{}, 3, 5)
}

func TestNoWeatherIsSlowerThanTheWorstOne(t *testing.T) {
	for _, r := range allRules() {
		for n := range 4 {
			for past := range allPasts(7) {
				checkSlowest(t, "each past", r, past, n, impl.WorstDays(r, past, n))
			}
			for _, past := range longPasts() {
				if len(past) <= 400 {
					checkSlowest(t, "long pasts", r, past, n, impl.WorstDays(r, past, n))
				}
			}
		}
	}
}

func TestSlowestDaysIsHeldAgainstEveryWeather(t *testing.T) {
	for _, r := range allRules() {
		for past := range allPasts(3) {
			for n := range 3 {
				checkSlowest(t, "each past", r, past, n, slowestOf(r, past, n))
			}
		}
	}
}

// WorstDays takes no such pasts, but here nothing is said against them.
func TestSlowestDaysBehindVeryLongPasts(t *testing.T) {
	for _, days := range []int{401, 402, 5000} {
		for n, want := range []int{0, 2, 3, 5} {
			checkSlowest(t, "calm days", oneInThree, make([]bool, days), n, want)
		}
		for n, want := range []int{0, 1, 2, 4} {
			checkSlowest(t, "storms", oneInThree, slices.Repeat([]bool{true}, days), n, want)
		}
	}
}

func TestLongestStorm(t *testing.T) {
	for _, c := range []struct {
		name string
		r    impl.Rule
		past string
		want int
	}{
		{"one", oneInThree, "", 1},
		{"none behind a storm", oneInThree, "s", 0},
		{"none a day behind a storm", oneInThree, "s.", 0},
		{"one, two days behind a storm", oneInThree, "s..", 1},
		{"three", impl.Rule{Most: 3, Window: 4}, "", 3},
		{"three, as the one before will be long ago", impl.Rule{Most: 3, Window: 4}, "s.", 3},
		{"two behind one", impl.Rule{Most: 3, Window: 4}, "s", 2},
		{"one behind two", impl.Rule{Most: 3, Window: 4}, "ss", 1},
		{"none behind three", impl.Rule{Most: 3, Window: 4}, "sss", 0},
		{"nine", nineInTen, "", 9},
		{"nine behind calm days", nineInTen, "..........", 9},
		{"one behind eight", nineInTen, "ssssssss", 1},
		{"none behind nine", nineInTen, "sssssssss", 0},
		{"nine behind nine and a day", nineInTen, "sssssssss.", 9},
		{"one, and one more later on", twoInFour, "s", 1},
		{"one, and the next day none", twoInFour, "s.", 1},
		{"a rule that forbids every storm", noneInTen, "", 0},
		{"a rule that forbids every storm, and there was one", noneInTen, "s..........", 0},
		{"a window of a day", calm, "", 0},
		{"a past that breaks the rule", oneInThree, "ss", 0},
		{"a past that broke the rule long ago", oneInThree, "ssss..", 1},
		{"a rule that is none", impl.Rule{}, "", 0},
		{"a rule that is none, with storms", impl.Rule{Most: 3, Window: 3}, "", 0},
	} {
		checkLongest(t, c.name, c.r, pastOf(c.past), c.want)
	}
	checkLongest(t, "a past that is nil", twoInFour, nil, 2)
	for _, r := range allRules() {
		for past := range allPasts(11) {
			checkLongest(t, "each past", r, past, longestStormOf(r, past))
		}
		for _, past := range longPasts() {
			checkLongest(t, "long pasts", r, past, longestStormOf(r, past))
		}
	}
}

func TestThatKeep(t *testing.T) {
	lists := func(texts ...string) [][]bool {
		l := [][]bool{}
		for _, text := range texts {
			l = append(l, pastOf(text))
		}
		return l
	}
	for _, c := range []struct {
		name string
		r    impl.Rule
		past string
		l    [][]bool
		want int
	}{
		{"some", oneInThree, "s", lists("..s", ".s", "", "s"), 2},
		{"all", oneInThree, "s..", lists("s", ".", "s..s", ""), 4},
		{"none", oneInThree, "s", lists("s", ".s", "ss"), 0},
		{"the same list several times", oneInThree, "s", lists("..s", "..s", "s", "..s"), 3},
		{"a list that breaks the rule by itself", oneInThree, "", lists("s.s", "ss", "s..s"), 1},
		{"a list that breaks the rule at its end", oneInThree, "...", lists("s..s..ss", "s..s..s."), 1},
		{"lists that are empty", oneInThree, "s", [][]bool{{}, nil, {}}, 3},
		{"no lists", oneInThree, "s", [][]bool{}, 0},
		{"no lists, nil", oneInThree, "s", nil, 0},
		{"a past that does not keep the rule", oneInThree, "ss", [][]bool{nil, {}, {false}, {false, false, false, true}}, 0},
		{"a past that did not keep the rule long ago", oneInThree, "ss..........", lists("", "....", "s"), 0},
		{"a past longer than the window", twoInFour, "ss..ss", lists("..s", "..ss", ".s"), 2},
		{"a rule that forbids every storm", noneInTen, "....", lists("", "....", "s", "...........s"), 2},
		{"a window of a day", calm, "", lists("", ".", "s"), 2},
		{"nine storms of ten days", nineInTen, "sssss", lists("ssss", "sssss", "ssss.ssss", "ssss.sssssssss", "ssss.ssssssssss"), 3},
		{"a rule that is none", impl.Rule{}, "", lists("", ".", "s"), 0},
		{"a rule that is none, and empty lists", impl.Rule{Most: 3, Window: 3}, "", [][]bool{nil, {}}, 0},
	} {
		checkThatKeep(t, c.name, c.r, pastOf(c.past), c.l, c.want)
	}
	checkThatKeep(t, "a past that is nil", oneInThree, nil, lists("s", "ss"), 1)
}

func TestThatKeepBehindEveryPast(t *testing.T) {
	throw := dice()
	l := [][]bool{nil}
	for range 40 {
		l = append(l, strewnPast(throw, throw(25), 2+throw(9)))
	}
	for _, r := range allRules() {
		for past := range allPasts(6) {
			checkThatKeep(t, "each past", r, past, l, thatKeepOf(r, past, l))
		}
		for _, past := range longPasts()[:12] {
			checkThatKeep(t, "long pasts", r, past, l[:9], thatKeepOf(r, past, l[:9]))
		}
	}
}

func TestFoodAfter(t *testing.T) {
	for _, c := range []struct {
		name string
		p    impl.Party
		days int
		want int
	}{
		{"some days", crewWith(pair, 10), 2, 4},
		{"no days", crewWith(pair, 10), 0, 10},
		{"a day", crewWith(pair, 10), 1, 7},
		{"as many days as the food lasts, with a rest", crewWith(pair, 10), 3, 1},
		{"a day more", crewWith(pair, 10), 4, -1},
		{"just as many days as the food lasts", crewWith(pair, 12), 4, 0},
		{"a day more than just as many", crewWith(pair, 12), 5, -1},
		{"no food, no days", crewWith(pair, 0), 0, 0},
		{"no food, a day", crewWith(pair, 0), 1, -1},
		{"food below 0, no days", crewWith(pair, -1), 0, -1},
		{"food below 0, a day", crewWith(pair, -1), 1, -1},
		{"days below 0", crewWith(pair, 10), -1, -1},
		{"days below 0 that would give food", crewWith(pair, 0), -5, -1},
		{"the most days", crewWith(pair, 10000), 1000, 7000},
		{"a day more than the most days", crewWith(pair, 10000), 1001, -1},
		{"the most days, just enough", crewWith(strong, 80000), 1000, 0},
		{"the most days, one unit less", crewWith(strong, 79999), 1000, -1},
		{"far too many days", crewWith(pair, 10000), 5000, -1},
		{"the greatest int of days", crewWith(pair, 10), math.MaxInt, -1},
		{"the least int of days", crewWith(pair, 10), math.MinInt, -1},
		{"the least int of days, for who needs 10", crewWith([]impl.Member{well(1, 1, 10)}, 10), math.MinInt, -1},
		{"the greatest int of food", crewWith(pair, math.MaxInt), 5, math.MaxInt - 15},
		{"the greatest int of food, no days", crewWith(pair, math.MaxInt), 0, math.MaxInt},
		{"the greatest int of food, the most days", crewWith(strong, math.MaxInt), 1000, math.MaxInt - 80000},
		{"the least int of food, no days", crewWith(pair, math.MinInt), 0, -1},
		// The difference wraps around, as the conventions say.
		{"the least int of food, a day", crewWith(pair, math.MinInt), 1, math.MaxInt - 2},
		{"nearly the least int of food, a day", crewWith(pair, math.MinInt+3), 1, -1},
		{"the ill eat, too", crewWith(trio, 20), 3, 2},
		{"all ill", crewWith(sick, 33), 2, 1},
		{"nobody", crewWith(nil, 10), 1, -1},
		{"nobody, no days", crewWith([]impl.Member{}, 10), 0, -1},
		{"a crew that is not in order", crewWith([]impl.Member{well(2, 5, 2), well(1, 5, 3)}, 30), 1, -1},
		{"no party", impl.Party{At: -1, Food: 12, Crew: pair, Past: make([]bool, 99)}, 3, 3},
	} {
		if got := impl.FoodAfter(c.p, c.days); got != c.want {
			t.Errorf("%s: FoodAfter(%v, %d) is %d, not %d", c.name, c.p, c.days, got, c.want)
		}
	}
}

func TestFoodAfterOfStrewnParties(t *testing.T) {
	throw := dice()
	for _, crew := range goodCrews() {
		for range 10 {
			p := crewWith(crew, throw(10001))
			lasts := p.Food / needOf(crew)
			for _, days := range []int{0, 1, throw(1200), lasts, lasts + 1} {
				want := p.Food - days*needOf(crew)
				if want < 0 || days > 1000 {
					want = -1
				}
				if got := impl.FoodAfter(p, days); got != want {
					t.Errorf("FoodAfter(%v, %d) is %d, not %d", p, days, got, want)
				}
			}
		}
	}
}

func TestNoWeathersOfBadRulesAndNoFoodOfBadCrews(t *testing.T) {
	for _, r := range badRules {
		for _, past := range [][]bool{nil, {}, {true}, {false}, make([]bool, 12), pastOf("ssssssssssss"), make([]bool, 401)} {
			for _, n := range []int{0, 1, 3, 4, 10, 11, -1, math.MaxInt, math.MinInt} {
				checkCount(t, "bad rule", r, past, n, 0)
				checkSlowest(t, "bad rule", r, past, n, -1)
			}
			checkLongest(t, "bad rule", r, past, 0)
			checkThatKeep(t, "bad rule", r, past, [][]bool{nil, {}, {false}, {true}}, 0)
		}
	}
	for _, crew := range badCrews() {
		for _, food := range []int{math.MinInt, -1, 0, 30, 10000, math.MaxInt} {
			for _, days := range []int{math.MinInt, -1, 0, 1, 1000, 1001, math.MaxInt} {
				if got := impl.FoodAfter(crewWith(crew, food), days); got != -1 {
					t.Errorf("FoodAfter(%v with %d, %d) is %d", crew, food, days, got)
				}
			}
		}
	}
}

func TestWeathersStayAsTheyWere(t *testing.T) {
	for _, text := range []string{"", "s", "s..", "ss..ss..s", ".........", "s..s..s..s..s..s..s"} {
		past, one, two, none := guard(pastOf(text)...), guard(pastOf("..s")...), guard(pastOf("ss")...), guard[bool]()
		whole := [][]bool{{true}, one.list, two.list, none.list, nil, {false}}
		l := whole[1:4]
		for _, r := range []impl.Rule{oneInThree, twoInFour, nineInTen, calm, {}} {
			for _, n := range []int{0, 3, 10, 11} {
				impl.CountWeathers(r, past.list, n)
				impl.SlowestDays(r, past.list, n)
			}
			impl.LongestStorm(r, past.list)
			impl.ThatKeep(r, past.list, l)
			past.check(t, "the functions of weathers")
			one.check(t, "ThatKeep")
			two.check(t, "ThatKeep")
			none.check(t, "ThatKeep")
			if len(whole[0]) != 1 || whole[4] != nil || len(whole[5]) != 1 || &whole[1][0] != &one.list[0] || &whole[2][0] != &two.list[0] || len(whole[3]) != 0 {
				t.Errorf("ThatKeep changes the lists to %v", whole)
			}
		}
	}
	g := guardParty(impl.Party{At: 3, Food: 50, Crew: trio, Past: pastOf("s..s")})
	for _, days := range []int{0, 3, 99, 1001} {
		impl.FoodAfter(g.party, days)
		g.check(t, "FoodAfter")
	}
}

func TestWeathersKeepNoState(t *testing.T) {
	past := pastOf("s..")
	first := impl.CountWeathers(oneInThree, past, 3)
	past[2] = true
	second := impl.CountWeathers(oneInThree, past, 3)
	past[2] = false
	third := impl.CountWeathers(oneInThree, past, 3)
	if first != 4 || second != 2 || third != 4 {
		t.Errorf("while the past changes, CountWeathers is %d, %d and %d", first, second, third)
	}
}
