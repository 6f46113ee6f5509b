package tests

import (
	"fmt"
	"math"
	"slices"
	"testing"

	"loop.example/g03008/impl"
)

// noKinds are numbers of no kind of event, also those of which the lowest bits
// are one.
var noKinds = []int{0, 7, -1, 8, -6, -2, 10, 256, 257, 262, 1 << 32, 1<<32 + 1, math.MaxInt, math.MaxInt - 1, math.MinInt, math.MinInt + 1, math.MinInt + 3}

// eventsOf are the events that a text tells of: each with a letter for its kind,
// a number, and an s for a storm.
func eventsOf(words ...string) []impl.Event {
	l := []impl.Event{}
	for _, word := range words {
		e := impl.Event{Storm: word[len(word)-1] == 's'}
		kinds := map[byte]int{'+': impl.EvGive, 'g': impl.EvGo, 'w': impl.EvWait, 'h': impl.EvHome, 'l': impl.EvLay, 't': impl.EvTake}
		e.Kind = kinds[word[0]]
		fmt.Sscanf(word[1:], "%d", &e.N)
		l = append(l, e)
	}
	return l
}

// runOf is RunEvents of a valid expedition in a valid land, and how many of the
// events succeeded.
func runOf(t impl.Trek, list []impl.Event) (impl.Trek, int) {
	done := 0
	for _, e := range list {
		x, ok := stepOf(t, e)
		t = x
		if ok {
			done++
		}
	}
	return t, done
}

// homeEventsOf is HomeEvents of a valid expedition.
func homeEventsOf(t impl.Trek) []impl.Event {
	days := worstDaysOf(t.Rule, t.Party.Past, len(sceneOf(t).wayHome())-1)
	l := []impl.Event{}
	for _, storm := range worstWeatherOf(t.Rule, t.Party.Past, days) {
		l = append(l, impl.Event{Kind: impl.EvHome, Storm: storm})
	}
	return l
}

// weatherOf draws the storms of events that are all of one kind, and have no
// number.
func weatherOf(l []impl.Event, kind int) string {
	weather := ""
	for _, e := range l {
		switch e {
		case impl.Event{Kind: kind}:
			weather += "."
		case impl.Event{Kind: kind, Storm: true}:
			weather += "s"
		default:
			weather += "?"
		}
	}
	return weather
}

func checkApply(t *testing.T, name string, x impl.Trek, e impl.Event, want impl.Trek, ok bool) {
	t.Helper()
	if got, gotOk := impl.ApplyEvent(x, e); gotOk != ok || !sameTrek(got, want) {
		t.Errorf("%s: ApplyEvent(%s, %v) is %s and %v, not %s and %v", name, brief(x), e, brief(got), gotOk, brief(want), ok)
	}
}

func checkRun(t *testing.T, name string, x impl.Trek, l []impl.Event, want impl.Trek) {
	t.Helper()
	if got := impl.RunEvents(x, l); !sameTrek(got, want) {
		t.Errorf("%s: RunEvents(%s, %v) is %s, not %s", name, brief(x), l, brief(got), brief(want))
	}
}

func checkHome(t *testing.T, name string, x impl.Trek, want []impl.Event) {
	t.Helper()
	if got := impl.HomeEvents(x); !slices.Equal(got, want) {
		t.Errorf("%s: HomeEvents(%s) are %v, not %v", name, brief(x), got, want)
	}
}

func TestEventNames(t *testing.T) {
	if impl.EvGive != 1 || impl.EvGo != 2 || impl.EvWait != 3 || impl.EvHome != 4 || impl.EvLay != 5 || impl.EvTake != 6 {
		t.Errorf("the kinds are not numbered in order")
	}
	for i, want := range []string{"give", "go", "wait", "home", "lay", "take"} {
		if got := impl.EventName(i + 1); got != want {
			t.Errorf("EventName(%d) is %q, not %q", i+1, got, want)
		}
	}
	for _, kind := range noKinds {
		if got := impl.EventName(kind); got != "" {
			t.Errorf("EventName(%d) is %q", kind, got)
		}
	}
}

func TestApplyEvent(t *testing.T) {
	for _, start := range []impl.Trek{onTheWay(), changedTrek(atTheBase(25)), changedTrek(func(t *impl.Trek) { t.Party.At = 10 })} {
		succeeded := 0
		for kind := impl.EvGive; kind <= impl.EvTake; kind++ {
			for _, n := range []int{0, 1, 5, 11, 33, -1, math.MaxInt, math.MinInt} {
				for _, storm := range []bool{false, true} {
					e := impl.Event{Kind: kind, N: n, Storm: storm}
					want, ok := doStep(start, e)
					checkApply(t, "each kind", start, e, want, ok)
					if ok {
						succeeded++
					}
				}
			}
		}
		if succeeded < 20 {
			t.Errorf("only %d events of %v succeed", succeeded, start)
		}
		for _, kind := range noKinds {
			for _, n := range []int{0, 1, 5, 11, math.MaxInt, math.MinInt} {
				for _, storm := range []bool{false, true} {
					checkApply(t, "no kind", start, impl.Event{Kind: kind, N: n, Storm: storm}, start, false)
				}
			}
		}
	}
}

func TestApplyEventInHistories(t *testing.T) {
	done := 0
	for x, e := range histories(150, 50) {
		want, ok := stepOf(x, e)
		checkApply(t, "strewn", x, e, want, ok)
		if ok {
			done++
		}
	}
	if done < 2500 {
		t.Errorf("only %d events succeed", done)
	}
}

func TestRunEvents(t *testing.T) {
	start, _ := impl.NewTrek(camp, 0, oneInThree, pair)
	for _, c := range []struct {
		name string
		list []impl.Event
		done int
		text string
	}{
		{"nothing", nil, 0, "a0 0 2 3 32 - on 0, given 0, eaten 0, depots []"},
		{"no events", []impl.Event{}, 0, "a0 0 2 3 32 - on 0, given 0, eaten 0, depots []"},
		{"a gift", eventsOf("+20"), 1, "a0 20 2 3 32 - on 0, given 20, eaten 0, depots []"},
		{"two gifts", eventsOf("+20", "+12"), 2, "a0 32 2 3 32 - on 0, given 32, eaten 0, depots []"},
		{"two gifts, the second one too great", eventsOf("+20", "+13"), 1, "a0 20 2 3 32 - on 0, given 20, eaten 0, depots []"},
		{"the first one too great", eventsOf("+33", "+13"), 1, "a0 13 2 3 32 - on 0, given 13, eaten 0, depots []"},
		{"out", eventsOf("+32", "g5", "g10"), 3, "a2 26 2 3 32 .. on 2, given 32, eaten 6, depots []"},
		{"out in a storm", eventsOf("+32", "g5s", "g5", "g10s", "g10"), 4, "a2 23 2 3 32 s.. on 3, given 32, eaten 9, depots []"},
		{"out and back", eventsOf("+32", "g5", "l9", "g10", "h", "hs", "t2", "h"), 7, "a0 17 2 3 32 ...s. on 5, given 32, eaten 15, depots []"},
		{"with events of no kind", []impl.Event{{Kind: 0, N: 5}, {Kind: impl.EvGive, N: 9}, {Kind: 7}, {Kind: -1, N: 5}, {Kind: impl.EvWait}}, 2, "a0 6 2 3 32 . on 1, given 9, eaten 3, depots []"},
		{"with nothing but events of no kind", []impl.Event{{}, {Kind: 7, N: 1}}, 0, "a0 0 2 3 32 - on 0, given 0, eaten 0, depots []"},
		{"laying and taking", eventsOf("+30", "l20", "l6", "t1", "t25", "t1", "l10"), 6, "a0 20 2 3 32 - on 0, given 30, eaten 0, depots [{0 10}]"},
	} {
		want, done := runOf(start, c.list)
		text := fmt.Sprintf("%s on %d, given %d, eaten %d, depots %v", partyTextOf(camp, want.Party), want.Day, want.Given, want.Eaten, want.Depots)
		if done != c.done || text != c.text {
			t.Errorf("%s: the test itself is wrong: %d events lead to %s", c.name, done, text)
		}
		checkRun(t, c.name, start, c.list, want)
	}
}

// strewnHistories are starts with the events of a history of each.
func strewnHistories(count int, events int) ([]impl.Trek, [][]impl.Event) {
	starts, lists := []impl.Trek{}, [][]impl.Event{}
	i := 0
	for x, e := range histories(count, events) {
		if i%events == 0 {
			starts, lists = append(starts, x), append(lists, nil)
		}
		i++
		lists[len(lists)-1] = append(lists[len(lists)-1], e)
	}
	return starts, lists
}

func TestHistoriesCanBeDivided(t *testing.T) {
	throw := dice()
	starts, lists := strewnHistories(80, 40)
	for i, start := range starts {
		l := lists[i]
		// An event of no kind changes nothing, wherever it is.
		at := throw(len(l))
		l = slices.Insert(slices.Clone(l), at, impl.Event{Kind: noKinds[throw(len(noKinds))], N: throw(9)})
		want, _ := runOf(start, l)
		checkRun(t, "as a whole", start, l, want)
		for cut := range len(l) + 1 {
			checkRun(t, "divided", impl.RunEvents(start, l[:cut]), l[cut:], want)
		}
	}
}

func TestEventsGoOnBehindOneThatDoesNotSucceed(t *testing.T) {
	starts, lists := strewnHistories(60, 40)
	for i, start := range starts {
		x := start
		for _, e := range lists[i] {
			next, ok := impl.ApplyEvent(x, e)
			if !ok && !sameTrek(next, x) {
				t.Errorf("%v does not succeed, and makes %v of %v", e, next, x)
			}
			x = next
		}
		checkRun(t, "one after the other", start, lists[i], x)
	}
}

func TestCountEvents(t *testing.T) {
	l := eventsOf("+1", "g5", "g5s", "w", "h", "hs", "h3", "l4", "t4", "t2", "t1", "ts")
	for kind, want := range []int{0, 1, 2, 1, 3, 1, 4, 0} {
		if got := impl.CountEvents(l, kind); got != want {
			t.Errorf("CountEvents(%v, %d) is %d, not %d", l, kind, got, want)
		}
	}
	for _, kind := range append(noKinds, 1, 2, 3, 4, 5, 6) {
		if got := impl.CountEvents(nil, kind) + impl.CountEvents([]impl.Event{}, kind); got != 0 {
			t.Errorf("without events, CountEvents of %d is %d", kind, got)
		}
		// A kind that is none is counted, too.
		many := slices.Repeat([]impl.Event{{Kind: kind}, {Kind: kind - 1, N: kind}}, 500)
		if got := impl.CountEvents(many, kind); got != 500 {
			t.Errorf("CountEvents of %d is %d", kind, got)
		}
	}
	_, lists := strewnHistories(40, 40)
	for _, l := range lists {
		counts := map[int]int{}
		for _, e := range l {
			counts[e.Kind]++
		}
		for kind := -1; kind <= 8; kind++ {
			if got := impl.CountEvents(l, kind); got != counts[kind] {
				t.Errorf("CountEvents(%v, %d) is %d, not %d", l, kind, got, counts[kind])
			}
		}
	}
}

func TestHomeEvents(t *testing.T) {
	for _, c := range []struct {
		name    string
		change  func(t *impl.Trek)
		weather string
	}{
		{"four steps", func(t *impl.Trek) {}, "s..s.."},
		{"four steps, the first one calm", func(t *impl.Trek) { t.Party.Past = pastOf("s.") }, ".s..s."},
		{"four steps, the first two calm", func(t *impl.Trek) { t.Party.Past = pastOf("s") }, "..s.."},
		{"without storms", func(t *impl.Trek) { t.Rule, t.Party.Past = calm, nil }, "...."},
		{"with more storms", func(t *impl.Trek) { t.Rule.Most, t.Party.Food, t.Given = 2, 40, 86 }, "ss.ss.ss.ss."},
		{"one storm in a long time", func(t *impl.Trek) { t.Rule, t.Party.Past = oneInTen, nil }, "s...."},
		{"from beside the base", func(t *impl.Trek) { t.Party.At = 5 }, "s."},
		{"from beside the base, in calm", func(t *impl.Trek) { t.Party.At, t.Party.Past = 5, pastOf("s") }, "."},
		{"at the base", atTheBase(25), ""},
		{"at the base without food", atTheBase(0), ""},
		{"to another base", func(t *impl.Trek) { t.Base = 13 }, "s."},
		{"on the last day", func(t *impl.Trek) { t.Day = 5000 }, "s..s.."},
		{"with too little food", func(t *impl.Trek) { t.Depots, t.Party.Food, t.Given = nil, 17, 53 }, ""},
		{"with just enough food", func(t *impl.Trek) { t.Depots, t.Party.Food, t.Given = nil, 18, 54 }, "s..s.."},
		{"not valid, as a unit is lost", func(t *impl.Trek) { t.Given++ }, ""},
		{"not valid, as it broke its rule", func(t *impl.Trek) { t.Party.Past = pastOf("ss") }, ""},
		{"not valid, by its day", func(t *impl.Trek) { t.Day = 5001 }, ""},
		{"not valid, by its journal", func(t *impl.Trek) { t.Journal[2].Food++ }, ""},
		{"not valid, by its base", func(t *impl.Trek) { t.Base = 6 }, ""},
		{"the zero expedition", func(t *impl.Trek) { *t = impl.Trek{} }, ""},
	} {
		x := changedTrek(c.change)
		got := impl.HomeEvents(x)
		if weather := weatherOf(got, impl.EvHome); weather != c.weather {
			t.Errorf("%s: HomeEvents(%v) are %v, not %s", c.name, x, got, c.weather)
		}
	}
}

func TestHomeEventsLeadHome(t *testing.T) {
	home, late, empty := 0, 0, 0
	for x := range histories(250, 40) {
		l := homeEventsOf(x)
		checkHome(t, "strewn", x, l)
		want, done := runOf(x, l)
		checkRun(t, "home", x, l, want)
		if x.Day+len(l) > 5000 {
			late++
			continue
		}
		got := impl.RunEvents(x, impl.HomeEvents(x))
		if done != len(l) || !impl.AtBase(got) || got.Day != x.Day+len(l) || got.Eaten != x.Eaten+len(l)*needOf(x.Party.Crew) {
			t.Errorf("the way home of %v leads to %v", x, got)
		}
		if len(x.Depots) == 0 && got.Party.Food != sceneOf(x).leftOf() {
			t.Errorf("%v comes home with %d", x, got.Party.Food)
		}
		if len(l) == 0 {
			empty++
		} else {
			home++
		}
	}
	if home < 2000 || late < 20 || empty < 1000 {
		t.Errorf("%d expeditions come home, for %d it is too late, %d are there", home, late, empty)
	}
}

func TestHomeEventsOfStrewnTreks(t *testing.T) {
	valid, others, long := 0, 0, 0
	for x := range strewnTreks(8000) {
		want := []impl.Event{}
		if isTrekOf(x) {
			want = homeEventsOf(x)
			valid++
		} else {
			others++
		}
		if len(want) > 20 {
			long++
		}
		checkHome(t, "strewn", x, want)
	}
	if valid < 1000 || others < 1000 || long < 20 {
		t.Errorf("%d expeditions are valid, %d are not; %d are far away", valid, others, long)
	}
}

func TestTheLongestWayHome(t *testing.T) {
	// 35 steps, with nine storms before each of them.
	s := scene{x: snake, base: 0, r: impl.Rule{Most: 9, Window: 10}, p: impl.Party{At: 56, Food: 350, Crew: []impl.Member{well(1, 0, 1)}}}
	x := trekOf(s, 0, 0, nil)
	l := impl.HomeEvents(x)
	weather := weatherOf(l, impl.EvHome)
	if len(l) != 350 || weather[:20] != "sssssssss.sssssssss." || impl.CountEvents(l, impl.EvHome) != 350 {
		t.Errorf("the longest way home is %s", weather)
	}
	got := impl.RunEvents(x, l)
	if !impl.AtBase(got) || got.Party.Food != 0 || got.Day != 350 || len(got.Journal) != 50 {
		t.Errorf("the longest way home leads to %v", got)
	}
	checkHome(t, "one day less", impl.RunEvents(x, l[:1]), l[1:])
}

func TestEventsOfBadTreks(t *testing.T) {
	l := eventsOf("+1", "g11", "g5", "w", "h", "hs", "ws", "l1", "t1")
	for name, x := range badTreks() {
		for _, e := range l {
			checkApply(t, name, x, e, x, false)
		}
		for _, kind := range noKinds {
			checkApply(t, name, x, impl.Event{Kind: kind, N: 1}, x, false)
		}
		checkRun(t, name, x, l, x)
		checkRun(t, name, x, nil, x)
		checkHome(t, name, x, nil)
	}
}

func TestEventsKeepTheirArguments(t *testing.T) {
	list := eventsOf("+1", "g11", "l2", "w", "t1", "hs", "h", "h", "h", "h", "+3", "0")
	for _, x := range keptTreks() {
		for _, e := range append(list, impl.Event{Kind: math.MinInt}) {
			checkOwnTrek(t, "ApplyEvent", x, func(x impl.Trek) impl.Trek {
				next, _ := impl.ApplyEvent(x, e)
				return next
			})
		}
		for _, long := range []int{0, 1, len(list)} {
			l := guard(list[:long]...)
			checkOwnTrek(t, "RunEvents", x, func(x impl.Trek) impl.Trek { return impl.RunEvents(x, l.list) })
			impl.CountEvents(l.list, 2)
			l.check(t, "RunEvents and CountEvents")
		}
		g := guardTrek(x)
		checkOwnMemory(t, "HomeEvents", g.cells, func() []impl.Event { return impl.HomeEvents(g.trek) })
		g.check(t, "HomeEvents")
	}
}

func TestEventsKeepNoState(t *testing.T) {
	x := onTheWay()
	first := weatherOf(impl.HomeEvents(x), impl.EvHome)
	x.Party.Past[0], x.Party.Past[2] = false, true
	second := weatherOf(impl.HomeEvents(x), impl.EvHome)
	x.Party.At = 5
	third := weatherOf(impl.HomeEvents(x), impl.EvHome)
	if first != "s..s.." || second != "..s.." || third != "." {
		t.Errorf("while the expedition changes, the weather on the way home is %s, %s and %s", first, second, third)
	}
}
