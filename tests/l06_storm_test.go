package tests

import (
	"math"
	"slices"
	"strings"
	"testing"

	"loop.example/g03008/impl"
)

// keepsOf is Keeps of a valid rule, told by each window, also by those in which
// the past ends.
func keepsOf(r impl.Rule, past []bool) bool {
	for first := range past {
		if stormsOf(past[first:min(first+r.Window, len(past))]) > r.Most {
			return false
		}
	}
	return true
}

// worstDaysOf is WorstDays, told by a past to which the days are added.
func worstDaysOf(r impl.Rule, past []bool, n int) int {
	all := slices.Clone(past)
	for calm := 0; calm < n; {
		storm := mayStormOf(r, all)
		all = append(all, storm)
		if !storm {
			calm++
		}
	}
	return len(all) - len(past)
}

// slowestOf is the greatest number of days until n of them have passed without
// a storm, in any weather in which each storm may be.
func slowestOf(r impl.Rule, past []bool, n int) int {
	if n == 0 {
		return 0
	}
	days := 1 + slowestOf(r, append(slices.Clone(past), false), n-1)
	if mayStormOf(r, past) {
		days = max(days, 1+slowestOf(r, append(slices.Clone(past), true), n))
	}
	return days
}

// longPasts are longer than any window, and some than WorstDays takes.
func longPasts() [][]bool {
	throw := dice()
	pasts := [][]bool{}
	for _, days := range []int{13, 50, 399, 400, 401, 1500} {
		for _, every := range []int{1, 2, 3, 6, 20} {
			pasts = append(pasts, strewnPast(throw, days, every))
		}
		pasts = append(pasts, make([]bool, days))
	}
	return pasts
}

func TestMaxWindow(t *testing.T) {
	if impl.MaxWindow != 10 {
		t.Errorf("MaxWindow is %d", impl.MaxWindow)
	}
}

func TestIsRule(t *testing.T) {
	for window := -4; window <= 25; window++ {
		for most := -4; most <= 25; most++ {
			want := 1 <= window && window <= 10 && 0 <= most && most < window
			if got := impl.IsRule(impl.Rule{Most: most, Window: window}); got != want {
				t.Errorf("IsRule of Most %d and Window %d is %v", most, window, got)
			}
		}
	}
	for _, r := range badRules {
		if impl.IsRule(r) {
			t.Errorf("IsRule(%v) is true", r)
		}
	}
}

func TestKeepsAndMayStorm(t *testing.T) {
	oneInThree := impl.Rule{Most: 1, Window: 3}
	twoInFour := impl.Rule{Most: 2, Window: 4}
	widest := impl.Rule{Most: 9, Window: 10}
	none := impl.Rule{Most: 0, Window: 5}
	noneInOne := impl.Rule{Most: 0, Window: 1}
	cases := []struct {
		name       string
		r          impl.Rule
		past       string
		keeps, may bool
	}{
		{"no day", oneInThree, "", true, true},
		{"a storm", oneInThree, "s", true, false},
		{"a storm the day before", oneInThree, "s.", true, false},
		{"a storm just before the window", oneInThree, "s..", true, true},
		{"a storm long before", oneInThree, "s......", true, true},
		{"two storms, as near as may be", oneInThree, "s..s", true, false},
		{"two storms, a day too near", oneInThree, "s.s", false, false},
		{"two storms one after the other", oneInThree, "ss", false, false},
		{"calm days", oneInThree, "....", true, true},
		{"a rule broken at the start", oneInThree, "ss..", false, true},
		{"a rule broken at the start, long before", oneInThree, "s.s.........", false, true},
		{"a rule broken in the middle", oneInThree, "...ss...", false, true},
		{"a rule broken at the end", oneInThree, "s..s..s.s", false, false},
		{"a rule broken on the last day, and only then", oneInThree, ".........ss", false, false},
		{"a past shorter than the window", twoInFour, "ss", true, false},
		{"a past shorter than the window, broken", twoInFour, "sss", false, false},
		{"a past shorter by a day", twoInFour, "s.s", true, false},
		{"a past as long as the window", twoInFour, "s..s", true, true},
		{"a past as long as the window, kept", twoInFour, "ss..", true, true},
		{"a past as long as the window, full at the end", twoInFour, "..ss", true, false},
		{"a past as long as the window, broken", twoInFour, "ss.s", false, false},
		{"a past longer than the window", twoInFour, "ss..ss", true, false},
		{"a past longer than the window, broken", twoInFour, "ss..sss", false, false},
		{"a past longer than the window, a storm in each half", twoInFour, "s.s.s.s.s", true, false},
		{"a past of storms", twoInFour, "ssssssss", false, false},
		{"one less than the window, in the widest", widest, "sssssssss", true, false},
		{"all of the widest window", widest, "ssssssssss", false, false},
		{"one day of the widest window calm, the first", widest, ".sssssssss", true, false},
		{"one day of the widest window calm, the last", widest, "sssssssss.", true, true},
		{"one day of the widest window calm, amid", widest, "ssss.sssss", true, true},
		{"in the widest window, two calm days ten days apart", widest, ".sssssssss.", true, true},
		{"in the widest window, two calm days eleven days apart", widest, ".ssssssssss.", false, true},
		{"without storms, no day", none, "", true, false},
		{"without storms, calm days", none, "........", true, false},
		{"without storms, a storm", none, "...s....", false, false},
		{"without storms, a storm behind the window", none, "s.........", false, false},
		{"a window of a day, no day", noneInOne, "", true, false},
		{"a window of a day, calm days", noneInOne, "...", true, false},
		{"a window of a day, a storm", noneInOne, "s", false, false},
		{"a window of a day, a storm before", noneInOne, "s..", false, false},
	}
	for _, c := range cases {
		if got := impl.Keeps(c.r, pastOf(c.past)); got != c.keeps {
			t.Errorf("%s: Keeps(%v, %q) is %v", c.name, c.r, c.past, got)
		}
		if got := impl.MayStorm(c.r, pastOf(c.past)); got != c.may {
			t.Errorf("%s: MayStorm(%v, %q) is %v", c.name, c.r, c.past, got)
		}
	}
	if !impl.Keeps(oneInThree, nil) || !impl.MayStorm(oneInThree, nil) || !impl.Keeps(none, nil) || impl.MayStorm(none, nil) {
		t.Error("a nil past is not like an empty one")
	}
}

func TestKeepsAndMayStormOfEveryPast(t *testing.T) {
	for _, r := range allRules() {
		for past := range allPasts(12) {
			checkKeepsAndMayStorm(t, r, past)
		}
		for _, past := range longPasts() {
			checkKeepsAndMayStorm(t, r, past)
		}
	}
}

func checkKeepsAndMayStorm(t *testing.T, r impl.Rule, past []bool) {
	t.Helper()
	if got, want := impl.Keeps(r, past), keepsOf(r, past); got != want {
		t.Errorf("Keeps(%v, %q) is %v", r, drawingOfPast(past), got)
	}
	if got, want := impl.MayStorm(r, past), mayStormOf(r, past); got != want {
		t.Errorf("MayStorm(%v, %q) is %v", r, drawingOfPast(past), got)
	}
}

func TestMayStormSaysWhichStormKeepsTheRule(t *testing.T) {
	for _, r := range allRules() {
		for past := range allPasts(11) {
			if !impl.Keeps(r, past) {
				continue
			}
			if !impl.Keeps(r, append(past, false)) {
				t.Errorf("%q keeps %v, and with a calm day it does not", drawingOfPast(past), r)
			}
			if may := impl.MayStorm(r, past); may != impl.Keeps(r, append(past, true)) {
				t.Errorf("MayStorm(%v, %q) is %v, but with a storm the rule is kept is %v", r, drawingOfPast(past), may, !may)
			}
		}
	}
}

func TestKeepsFindsOneStormTooMany(t *testing.T) {
	for _, r := range allRules() {
		// As many storms as may be, as early as they may be.
		past := []bool{}
		for len(past) < 300 {
			past = append(past, len(past)%r.Window < r.Most)
		}
		if !impl.Keeps(r, past) {
			t.Errorf("the worst weather of %v does not keep it", r)
		}
		for i, storm := range past {
			if !storm {
				past[i] = true
				if impl.Keeps(r, past) {
					t.Errorf("with a storm more on day %d, the worst weather of %v keeps it", i, r)
				}
				past[i] = false
			}
		}
	}
}

func TestWorstDays(t *testing.T) {
	oneInThree := impl.Rule{Most: 1, Window: 3}
	twoInThree := impl.Rule{Most: 2, Window: 3}
	twoInFour := impl.Rule{Most: 2, Window: 4}
	widest := impl.Rule{Most: 9, Window: 10}
	cases := []struct {
		name    string
		r       impl.Rule
		past    string
		n, want int
	}{
		{"no day", oneInThree, "", 0, 0},
		{"a storm, then a day", oneInThree, "", 1, 2},
		{"a storm, then two days", oneInThree, "", 2, 3},
		{"the next storm", oneInThree, "", 3, 5},
		{"as far as may be", oneInThree, "", 200, 300},
		{"behind a storm", oneInThree, "s", 1, 1},
		{"behind a storm, until the next one may be", oneInThree, "s", 2, 2},
		{"behind a storm, the next one", oneInThree, "s", 3, 4},
		{"a day behind a storm", oneInThree, "s.", 1, 1},
		{"a day behind a storm, the next one", oneInThree, "s.", 2, 3},
		{"two days behind a storm", oneInThree, "s..", 1, 2},
		{"two storms, then a day", twoInThree, "", 1, 3},
		{"two storms before each day", twoInThree, "", 2, 6},
		{"two storms in the past", twoInThree, "ss", 1, 1},
		{"two storms in the past, two more", twoInThree, "ss", 2, 4},
		{"two storms apart in the past", twoInFour, "s.s", 1, 1},
		{"two storms apart in the past, the next ones", twoInFour, "s.s", 2, 3},
		{"two storms apart in a longer past", twoInFour, "s.s.", 1, 2},
		{"a storm at the start of the past", twoInFour, "s..", 1, 3},
		{"a storm at the end of the past", twoInFour, "..s", 1, 2},
		{"a broken past", oneInThree, "ss", 1, 1},
		{"a broken past, longer", oneInThree, "ss", 3, 4},
		{"a past of storms", twoInFour, "ssssssss", 2, 2},
		{"a past of storms, until the next ones", twoInFour, "ssssssss", 3, 5},
		{"nine storms before each day", widest, "", 1, 10},
		{"nine storms before each day, as far as may be", widest, "", 200, 2000},
		{"nine storms in the past", widest, "sssssssss", 1, 1},
		{"eight storms in the past", widest, "ssssssss", 1, 2},
		{"eight storms in a past of nine days", widest, ".ssssssss", 1, 2},
		{"eight storms in a past of ten days", widest, "..ssssssss", 1, 2},
		{"eight storms behind which it was calm", widest, "ssssssss.", 1, 10},
		{"no storms", impl.Rule{Most: 0, Window: 1}, "", 7, 7},
		{"no storms, in a wider window", impl.Rule{Most: 0, Window: 10}, "", 200, 200},
		{"no storms, though there were some", impl.Rule{Most: 0, Window: 4}, "ssss", 3, 3},
	}
	for _, c := range cases {
		if got := impl.WorstDays(c.r, pastOf(c.past), c.n); got != c.want {
			t.Errorf("%s: WorstDays(%v, %q, %d) is %d, not %d", c.name, c.r, c.past, c.n, got, c.want)
		}
	}
}

// Without storms in the past, Most storms come, then the other days of the
// window, then Most storms again.
func TestWorstDaysBehindCalmDays(t *testing.T) {
	for _, r := range allRules() {
		for n := range 201 {
			calm := r.Window - r.Most
			want := n + r.Most*((n+calm-1)/calm)
			for _, past := range [][]bool{nil, {}, make([]bool, 1), make([]bool, r.Window-1), make([]bool, r.Window), make([]bool, 400)} {
				if got := impl.WorstDays(r, past, n); got != want {
					t.Errorf("WorstDays(%v, %d calm days, %d) is %d, not %d", r, len(past), n, got, want)
				}
			}
		}
	}
}

func TestWorstDaysAreAddedOneByOne(t *testing.T) {
	for _, r := range allRules() {
		for past := range allPasts(10) {
			checkWorstDays(t, r, past, 1, 2, 5)
		}
		for past := range allPasts(5) {
			checkWorstDays(t, r, past, 3, 4, 11, 200)
		}
		for _, past := range longPasts() {
			if len(past) <= 400 {
				checkWorstDays(t, r, past, 0, 1, 2, 9, 31, 199, 200)
			}
		}
	}
}

func checkWorstDays(t *testing.T, r impl.Rule, past []bool, counts ...int) {
	t.Helper()
	for _, n := range counts {
		if got, want := impl.WorstDays(r, past, n), worstDaysOf(r, past, n); got != want {
			t.Errorf("WorstDays(%v, %q, %d) is %d, not %d", r, drawingOfPast(past), n, got, want)
		}
	}
}

func TestEachDayOfStormThatIsAllowedWasCounted(t *testing.T) {
	for _, r := range allRules() {
		days, most := 4, 3
		if r.Window > 5 {
			days, most = 2, 2
		}
		for past := range allPasts(days) {
			for n := range most + 1 {
				if got, want := impl.WorstDays(r, past, n), slowestOf(r, past, n); got != want {
					t.Errorf("WorstDays(%v, %q, %d) is %d, but the slowest weather has %d days", r, drawingOfPast(past), n, got, want)
				}
			}
		}
	}
}

func TestNoWeatherThatKeepsTheRuleIsSlower(t *testing.T) {
	throw := dice()
	for _, r := range allRules() {
		for range 8 {
			past, calm := []bool{}, 0
			for calm < 200 {
				storm := throw(3) > 0 && mayStormOf(r, past)
				past = append(past, storm)
				if !storm {
					calm++
				}
				if worst := impl.WorstDays(r, nil, calm); !storm && worst < len(past) {
					t.Errorf("with %v, %d days without a storm took %d days, more than %d", r, calm, len(past), worst)
				}
			}
			if !impl.Keeps(r, past) {
				t.Errorf("%q does not keep %v", drawingOfPast(past), r)
			}
		}
	}
}

func TestWorstDaysThatAreNotToldOf(t *testing.T) {
	r := impl.Rule{Most: 1, Window: 3}
	for _, n := range []int{-1, -2, -200, 201, 202, 400, 401, 1 << 32, math.MaxInt, math.MinInt, math.MinInt + 1} {
		for _, past := range [][]bool{nil, {true}, make([]bool, 400), make([]bool, 401)} {
			if got := impl.WorstDays(r, past, n); got != -1 {
				t.Errorf("WorstDays(%v, %d days, %d) is %d", r, len(past), n, got)
			}
		}
	}
	for _, days := range []int{401, 402, 1000, 100000} {
		for _, n := range []int{0, 1, 2, 200, 201, -1} {
			if got := impl.WorstDays(r, make([]bool, days), n); got != -1 {
				t.Errorf("WorstDays(%v, %d days, %d) is %d", r, days, n, got)
			}
		}
	}
	for _, n := range []int{0, 1, 2, 200} {
		// The capacity of a past is not its length.
		if got, want := impl.WorstDays(r, make([]bool, 400, 900), n), n+(n+1)/2; got != want {
			t.Errorf("WorstDays(%v, 400 days, %d) is %d, not %d", r, n, got, want)
		}
	}
}

func TestBadRulesAnswerNothing(t *testing.T) {
	for _, r := range badRules {
		for _, past := range [][]bool{nil, {}, {true}, {false}, make([]bool, 12), pastOf(strings.Repeat("s", 12)), make([]bool, 400), make([]bool, 401)} {
			if impl.Keeps(r, past) {
				t.Errorf("Keeps(%v, %q) is true", r, drawingOfPast(past))
			}
			if impl.MayStorm(r, past) {
				t.Errorf("MayStorm(%v, %q) is true", r, drawingOfPast(past))
			}
			for _, n := range []int{0, 1, 5, 200, 201, -1, math.MaxInt, math.MinInt} {
				if got := impl.WorstDays(r, past, n); got != -1 {
					t.Errorf("WorstDays(%v, %d days, %d) is %d", r, len(past), n, got)
				}
			}
		}
	}
}

func TestAddDay(t *testing.T) {
	cases := []struct {
		name  string
		past  string
		storm bool
		want  string
	}{
		{"to no day, a storm", "", true, "s"},
		{"to no day, a calm one", "", false, "."},
		{"to a day", ".", true, ".s"},
		{"to a storm", "s", false, "s."},
		{"the tenth", "s.s.s.s.s", true, "s.s.s.s.ss"},
		{"to ten days, a storm", "s..s......", true, "..s......s"},
		{"to ten days, a calm one", "ss.......s", false, "s.......s."},
		{"to ten storms", "ssssssssss", false, "sssssssss."},
		{"to eleven days", "sss........", true, "s........s"},
		{"to many days", "ssssssssssssssssssss..s.s..s.", true, "..s.s..s.s"},
	}
	for _, c := range cases {
		if got := drawingOfPast(impl.AddDay(pastOf(c.past), c.storm)); got != c.want {
			t.Errorf("%s: AddDay(%q, %v) is %q, not %q", c.name, c.past, c.storm, got, c.want)
		}
	}
	if got := impl.AddDay(nil, true); !slices.Equal(got, []bool{true}) {
		t.Errorf("AddDay(nil, true) is %v", got)
	}
}

func TestAddDayKeepsTheLastDays(t *testing.T) {
	for past := range allPasts(12) {
		checkAddDay(t, past)
	}
	for _, past := range longPasts() {
		checkAddDay(t, past)
	}
}

func checkAddDay(t *testing.T, past []bool) {
	t.Helper()
	for _, storm := range []bool{false, true} {
		want := append(slices.Clone(past), storm)
		want = want[max(0, len(want)-10):]
		if got := impl.AddDay(past, storm); !slices.Equal(got, want) {
			t.Errorf("AddDay(%q, %v) is %q", drawingOfPast(past), storm, drawingOfPast(got))
		}
	}
}

// The days that AddDay forgets do not matter to a rule, however wide it is.
func TestTheLastDaysAreEnough(t *testing.T) {
	throw := dice()
	for _, r := range allRules() {
		kept, all := []bool{}, []bool{}
		for len(all) < 300 {
			if got, want := impl.MayStorm(r, kept), impl.MayStorm(r, all); got != want {
				t.Errorf("MayStorm(%v, %q) is %v, not as after all days", r, drawingOfPast(kept), got)
			}
			if got, want := impl.WorstDays(r, kept, 5), impl.WorstDays(r, all, 5); got != want {
				t.Errorf("WorstDays(%v, %q, 5) is %d, and after all days %d", r, drawingOfPast(kept), got, want)
			}
			storm := throw(2) == 0
			kept, all = impl.AddDay(kept, storm), append(all, storm)
		}
	}
}

func TestCountStormsAndCalmDays(t *testing.T) {
	cases := []struct {
		past         string
		storms, calm int
	}{
		{"", 0, 0},
		{"s", 1, 0},
		{".", 0, 1},
		{"s.", 1, 1},
		{".s", 1, 0},
		{"..s...", 1, 3},
		{"s..s......", 2, 6},
		{"s..s", 2, 0},
		{"ssss", 4, 0},
		{"ssss.", 4, 1},
		{"........", 0, 8},
		{"s...........", 1, 11},
	}
	for _, c := range cases {
		if got := impl.CountStorms(pastOf(c.past)); got != c.storms {
			t.Errorf("CountStorms(%q) is %d, not %d", c.past, got, c.storms)
		}
		if got := impl.CalmDays(pastOf(c.past)); got != c.calm {
			t.Errorf("CalmDays(%q) is %d, not %d", c.past, got, c.calm)
		}
	}
	if impl.CountStorms(nil) != 0 || impl.CalmDays(nil) != 0 {
		t.Error("a nil past has days")
	}
}

func TestCountStormsAndCalmDaysOfEveryPast(t *testing.T) {
	pasts := longPasts()
	for past := range allPasts(12) {
		pasts = append(pasts, past)
	}
	for _, past := range pasts {
		drawing := drawingOfPast(past)
		if got, want := impl.CountStorms(past), strings.Count(drawing, "s"); got != want {
			t.Errorf("CountStorms(%q) is %d, not %d", drawing, got, want)
		}
		if got, want := impl.CalmDays(past), len(drawing)-1-strings.LastIndex(drawing, "s"); got != want {
			t.Errorf("CalmDays(%q) is %d, not %d", drawing, got, want)
		}
	}
}

func TestPastsStayAsTheyWere(t *testing.T) {
	for _, drawing := range []string{"", "s", ".", "s.s", "ss..s....", "ss..s.....", "s.s.s.s.s.s.s.s.", strings.Repeat("s..", 140)} {
		past := guard(pastOf(drawing)...)
		for _, storm := range []bool{false, true} {
			checkOwnMemory(t, "AddDay", past, func() []bool { return impl.AddDay(past.list, storm) })
		}
		for _, r := range append(allRules(), badRules...) {
			impl.Keeps(r, past.list)
			impl.MayStorm(r, past.list)
			impl.WorstDays(r, past.list, 12)
		}
		impl.CountStorms(past.list)
		impl.CalmDays(past.list)
		past.check(t, "the functions of storms")
	}
	nothing := guard[bool]()
	checkOwnMemory(t, "AddDay", nothing, func() []bool { return impl.AddDay(nil, true) })
}

func TestStormsKeepNoState(t *testing.T) {
	r := impl.Rule{Most: 2, Window: 5}
	past := pastOf("..s.")
	first := impl.WorstDays(r, past, 4)
	past[3] = true
	second := impl.WorstDays(r, past, 4)
	third := impl.WorstDays(impl.Rule{Most: 2, Window: 3}, past, 4)
	past[3] = false
	fourth := impl.WorstDays(r, past, 4)
	if first != worstDaysOf(r, pastOf("..s."), 4) || first != fourth || second != worstDaysOf(r, pastOf("..ss"), 4) || third != worstDaysOf(impl.Rule{Most: 2, Window: 3}, pastOf("..ss"), 4) {
		t.Errorf("while the past changes, WorstDays is %d, %d, %d and %d", first, second, third, fourth)
	}
}
