package tests

import (
	"fmt"
	"math"
	"slices"
	"testing"

	"loop.example/g03008/impl"
)

func checkStep(t *testing.T, name string, x impl.Trek, e impl.Event, want impl.Trek, ok bool) {
	t.Helper()
	if got, gotOk := doStep(x, e); gotOk != ok || !sameTrek(got, want) {
		t.Errorf("%s: %v of %s is %s and %v, not %s and %v", name, e, brief(x), brief(got), gotOk, brief(want), ok)
	}
}

// passed is what a day makes of an expedition whose crew is the pair.
func passed(t *impl.Trek, at int, food int, storm bool, page impl.Page) {
	t.Party.At, t.Party.Food, t.Party.Past = at, food, append(t.Party.Past, storm)
	t.Party.Past = t.Party.Past[max(0, len(t.Party.Past)-10):]
	t.Day++
	t.Eaten += 3
	t.Journal = sealed(append(t.Journal, page))
}

// stepCase is a step of onTheWay with something changed. It does not succeed if
// there is no want, which changes what was into what is.
type stepCase struct {
	name   string
	change func(t *impl.Trek)
	event  impl.Event
	want   func(t *impl.Trek)
}

func checkStepCases(t *testing.T, cases []stepCase) {
	t.Helper()
	for _, c := range cases {
		x := changedTrek(c.change)
		want := trekLike(x)
		if c.want != nil {
			c.want(&want)
		}
		model, ok := stepOf(x, c.event)
		if !isTrekOf(x) || ok != (c.want != nil) || !sameTrek(model, want) {
			t.Errorf("%s: the test itself is wrong: %v of %v is %v and %v", c.name, c.event, x, model, ok)
		}
		checkStep(t, c.name, x, c.event, want, c.want != nil)
	}
}

// atTheBase changes onTheWay: the party is at its base, and has so much food.
func atTheBase(food int) func(t *impl.Trek) {
	return func(t *impl.Trek) {
		t.Party.At, t.Party.Food, t.Given = 0, food, 36+10+food
	}
}

// mostGiven changes onTheWay: there are no depots, the party is at its base and
// has so much food, and as much as may be was given.
func mostGiven(food int) func(t *impl.Trek) {
	return func(t *impl.Trek) {
		t.Party.At, t.Party.Food, t.Depots = 0, food, nil
		t.Given, t.Eaten = 1000000, 1000000-food
	}
}

func TestStepGive(t *testing.T) {
	give := func(n int) impl.Event { return impl.Event{Kind: impl.EvGive, N: n} }
	given := func(n int) func(t *impl.Trek) {
		return func(t *impl.Trek) { t.Party.Food += n; t.Given += n }
	}
	atRest := func(change func(t *impl.Trek)) func(t *impl.Trek) {
		return func(t *impl.Trek) { atTheBase(25)(t); change(t) }
	}
	checkStepCases(t, []stepCase{
		{"some", atTheBase(25), give(4), given(4)},
		{"nothing", atTheBase(25), give(0), nil},
		{"one unit", atTheBase(25), give(1), given(1)},
		{"all that finds room", atTheBase(25), give(7), given(7)},
		{"one unit more", atTheBase(25), give(8), nil},
		{"a negative number", atTheBase(25), give(-1), nil},
		{"the greatest int", atTheBase(25), give(math.MaxInt), nil},
		{"the least int", atTheBase(25), give(math.MinInt), nil},
		{"to those who have nothing", atTheBase(0), give(32), given(32)},
		{"one unit more to those who have nothing", atTheBase(0), give(33), nil},
		{"where there is room for one unit", atTheBase(31), give(1), given(1)},
		{"where there is no room", atTheBase(32), give(1), nil},
		{"nothing where there is no room", atTheBase(32), give(0), nil},
		{"to those who have more than they can carry", atTheBase(33), give(1), nil},
		{"to those who have far too much", atTheBase(10000), give(1), nil},
		{"away from the base", func(t *impl.Trek) {}, give(4), nil},
		{"beside the base", func(t *impl.Trek) { t.Party.At = 5 }, give(4), nil},
		{"at another base", func(t *impl.Trek) { t.Base = 12 }, give(4), given(4)},
		{"where there is a depot", atRest(func(t *impl.Trek) { t.Depots[0].Cell = 0 }), give(7), given(7)},
		{"on the last day", atRest(func(t *impl.Trek) { t.Day = 5000 }), give(7), given(7)},
		{"on the first day", atRest(func(t *impl.Trek) { t.Day, t.Journal = 0, nil }), give(7), given(7)},
		{"with a hundred pages", atRest(func(t *impl.Trek) { t.Day, t.Journal = 5000, hundredPages(100) }), give(7), given(7)},
		{"where one is ill", atRest(func(t *impl.Trek) { t.Party.Crew[1].Ill, t.Party.Food, t.Given = true, 15, 61 }), give(5), given(5)},
		{"one unit more where one is ill", atRest(func(t *impl.Trek) { t.Party.Crew[1].Ill, t.Party.Food, t.Given = true, 15, 61 }), give(6), nil},
		{"until the most is given", func(t *impl.Trek) { mostGiven(8)(t); t.Given -= 5; t.Eaten -= 5 }, give(5), given(5)},
		{"one unit more than the most", func(t *impl.Trek) { mostGiven(8)(t); t.Given -= 5; t.Eaten -= 5 }, give(6), nil},
		{"where the most is given", mostGiven(8), give(1), nil},
		{"behind the most storms", atRest(func(t *impl.Trek) { t.Party.Past = pastOf("s..s..s") }), give(2), given(2)},
	})
}

func TestStepGo(t *testing.T) {
	on := func(to int) impl.Event { return impl.Event{Kind: impl.EvGo, N: to} }
	stormy := func(to int) impl.Event { return impl.Event{Kind: impl.EvGo, N: to, Storm: true} }
	withPast := func(past string) func(t *impl.Trek) {
		return func(t *impl.Trek) { t.Party.Past = pastOf(past) }
	}
	went := func(at int) func(t *impl.Trek) {
		return func(t *impl.Trek) { passed(t, at, 22, false, impl.Page{Day: 13, Cell: at, Food: 22}) }
	}
	checkStepCases(t, []stepCase{
		{"home", func(t *impl.Trek) {}, on(11), went(11)},
		{"farther away", func(t *impl.Trek) { t.Party.Food, t.Given = 28, 74 }, on(13), func(t *impl.Trek) { passed(t, 13, 25, false, impl.Page{Day: 13, Cell: 13, Food: 25}) }},
		{"farther away with too little food", func(t *impl.Trek) { t.Depots, t.Party.Food, t.Given = nil, 26, 62 }, on(13), nil},
		{"farther away with just enough", func(t *impl.Trek) { t.Depots, t.Party.Food, t.Given = nil, 27, 63 }, on(13), func(t *impl.Trek) { passed(t, 13, 24, false, impl.Page{Day: 13, Cell: 13, Food: 24}) }},
		{"in a storm", func(t *impl.Trek) {}, stormy(11), func(t *impl.Trek) { passed(t, 12, 22, true, impl.Page{Day: 13, Cell: 12, Food: 22}) }},
		{"in a storm that is not allowed", withPast("s"), stormy(11), nil},
		{"in a storm that is not allowed for another day", withPast("s."), stormy(11), nil},
		{"without the storm that is not allowed", withPast("s"), on(11), went(11)},
		{"in a storm behind ten days", withPast("s..s..s..."), stormy(11), func(t *impl.Trek) { passed(t, 12, 22, true, impl.Page{Day: 13, Cell: 12, Food: 22}) }},
		{"to its own cell", func(t *impl.Trek) {}, on(12), nil},
		{"to a rock", func(t *impl.Trek) {}, on(7), nil},
		{"two cells away", func(t *impl.Trek) {}, on(10), nil},
		{"to the base, which is far away", func(t *impl.Trek) {}, on(0), nil},
		{"to no cell", func(t *impl.Trek) {}, on(20), nil},
		{"to a negative cell", func(t *impl.Trek) {}, on(-1), nil},
		{"to the greatest int", func(t *impl.Trek) {}, on(math.MaxInt), nil},
		{"to the least int", func(t *impl.Trek) {}, on(math.MinInt), nil},
		{"to a cell that is not near, in a storm", func(t *impl.Trek) {}, stormy(10), nil},
		{"on the last day", func(t *impl.Trek) { t.Day, t.Journal = 5000, nil }, on(11), nil},
		{"on the day before the last one", func(t *impl.Trek) { t.Day, t.Journal = 4999, nil }, on(11), func(t *impl.Trek) { passed(t, 11, 22, false, impl.Page{Day: 5000, Cell: 11, Food: 22}) }},
		{"from the day 0", func(t *impl.Trek) { t.Day, t.Journal = 0, nil }, on(11), func(t *impl.Trek) { passed(t, 11, 22, false, impl.Page{Day: 1, Cell: 11, Food: 22}) }},
		{"on the day of the last page", func(t *impl.Trek) { t.Day = 10 }, on(11), func(t *impl.Trek) { passed(t, 11, 22, false, impl.Page{Day: 11, Cell: 11, Food: 22}) }},
		{"with 99 pages", func(t *impl.Trek) { t.Day, t.Journal = 99, strewnHundred(dice(), 99) }, on(11), func(t *impl.Trek) { passed(t, 11, 22, false, impl.Page{Day: 100, Cell: 11, Food: 22}) }},
		{"with 100 pages", func(t *impl.Trek) { t.Day, t.Journal = 99, strewnHundred(dice(), 100) }, on(11), func(t *impl.Trek) {
			t.Journal = nil
			passed(t, 11, 22, false, impl.Page{Day: 100, Cell: 11, Food: 22})
		}},
		{"to a depot, which is not taken up", func(t *impl.Trek) { t.Party.At = 11 }, on(10), went(10)},
		{"from a depot, which is not taken up", func(t *impl.Trek) { t.Party.At = 5 }, on(10), went(10)},
		{"to the base", func(t *impl.Trek) { t.Party.At = 5 }, on(0), went(0)},
		{"until the most is eaten", func(t *impl.Trek) { mostGiven(3)(t); t.Party.At, t.Party.Past = 5, pastOf("s") }, on(0), func(t *impl.Trek) { passed(t, 0, 0, false, impl.Page{Day: 13, Cell: 0, Food: 0}) }},
	})
}

func TestStepWait(t *testing.T) {
	still := impl.Event{Kind: impl.EvWait}
	// The number of the event does not matter.
	stormy := impl.Event{Kind: impl.EvWait, N: 11, Storm: true}
	waited := func(at int, food int, storm bool) func(t *impl.Trek) {
		return func(t *impl.Trek) { passed(t, at, food, storm, impl.Page{Day: t.Day + 1, Cell: at, Food: food}) }
	}
	checkStepCases(t, []stepCase{
		{"a day", func(t *impl.Trek) {}, still, waited(12, 22, false)},
		{"a day of storm", func(t *impl.Trek) {}, stormy, waited(12, 22, true)},
		{"in a storm that is not allowed", func(t *impl.Trek) { t.Party.Past = pastOf("s.") }, stormy, nil},
		{"without storms, in a storm", func(t *impl.Trek) { t.Rule, t.Party.Past = calm, nil }, stormy, nil},
		{"without storms", func(t *impl.Trek) { t.Rule, t.Party.Past = calm, nil }, still, waited(12, 22, false)},
		{"with just enough food", func(t *impl.Trek) { t.Depots, t.Party.Food, t.Given = nil, 21, 57 }, still, waited(12, 18, false)},
		{"with one unit less", func(t *impl.Trek) { t.Depots, t.Party.Food, t.Given = nil, 20, 56 }, still, nil},
		{"at the base", atTheBase(3), still, waited(0, 0, false)},
		{"at the base with less than a day needs", atTheBase(2), still, nil},
		{"at the base with nothing", atTheBase(0), still, nil},
		{"on the last day", func(t *impl.Trek) { atTheBase(25)(t); t.Day = 5000 }, still, nil},
		{"on the day before the last one", func(t *impl.Trek) { atTheBase(25)(t); t.Day = 4999 }, still, waited(0, 22, false)},
		{"on the last day, in a storm", func(t *impl.Trek) { t.Day = 5000 }, stormy, nil},
		{"until the most is eaten", mostGiven(3), still, waited(0, 0, false)},
		{"until the most is eaten, but for one unit", mostGiven(4), stormy, waited(0, 1, true)},
		{"where the most is eaten", mostGiven(0), still, nil},
		{"with a journal without pages", func(t *impl.Trek) { t.Journal = []impl.Page{} }, still, waited(12, 22, false)},
		{"with 100 pages, until the last day", func(t *impl.Trek) { t.Day, t.Journal = 4999, strewnHundred(dice(), 100) }, still, func(t *impl.Trek) {
			t.Journal = nil
			passed(t, 12, 22, false, impl.Page{Day: 5000, Cell: 12, Food: 22})
		}},
		{"with too much food", func(t *impl.Trek) { t.Party.Food, t.Given = 10000, 10046 }, still, waited(12, 9997, false)},
	})
}

// beforeADepot is three days from the base, one before a depot. If the day is
// calm, the depot finds less room, and the storm comes where it is needed.
func beforeADepot() impl.Trek {
	crew := []impl.Member{well(1, 4, 2)}
	s := scene{x: landOf("...."), base: 0, r: oneInTen, l: depotsOf([2]int{2, 9}), p: impl.Party{At: 3, Food: 4, Crew: crew}}
	return trekOf(s, 6, 12, nil)
}

func TestStepHome(t *testing.T) {
	home := impl.Event{Kind: impl.EvHome}
	// The number of the event does not matter.
	stormy := impl.Event{Kind: impl.EvHome, N: 13, Storm: true}
	came := func(at int, food int, storm bool, depots ...[2]int) func(t *impl.Trek) {
		return func(t *impl.Trek) {
			passed(t, at, food, storm, impl.Page{Day: t.Day + 1, Cell: at, Food: food})
			t.Depots = depotsOf(depots...)
		}
	}
	onADepot := func(t *impl.Trek) { t.Party.At = 10 }
	checkStepCases(t, []stepCase{
		{"a step", func(t *impl.Trek) {}, home, came(11, 22, false, [2]int{5, 4}, [2]int{10, 6})},
		{"a day of storm", func(t *impl.Trek) {}, stormy, came(12, 22, true, [2]int{5, 4}, [2]int{10, 6})},
		{"in a storm that is not allowed", func(t *impl.Trek) { t.Party.Past = pastOf("s") }, stormy, nil},
		{"without that storm", func(t *impl.Trek) { t.Party.Past = pastOf("s") }, home, came(11, 22, false, [2]int{5, 4}, [2]int{10, 6})},
		{"taking up a depot", onADepot, home, came(5, 28, false, [2]int{5, 4})},
		{"taking up a depot in a storm", onADepot, stormy, came(10, 28, true, [2]int{5, 4})},
		{"taking up a part of a depot", func(t *impl.Trek) { onADepot(t); t.Party.Food, t.Given = 30, 76 }, home, came(5, 29, false, [2]int{5, 4}, [2]int{10, 4})},
		{"to the base", func(t *impl.Trek) { t.Party.At = 5 }, home, came(0, 26, false, [2]int{10, 6})},
		{"at the base", atTheBase(25), home, nil},
		{"at the base, in a storm", atTheBase(25), stormy, nil},
		{"at the base, without food", atTheBase(0), home, nil},
		{"with just enough food", func(t *impl.Trek) { t.Depots, t.Party.Food, t.Given = nil, 18, 54 }, stormy, came(12, 15, true)},
		{"on the last day", func(t *impl.Trek) { t.Day = 5000 }, home, nil},
		{"on the last day, taking up a depot", func(t *impl.Trek) { onADepot(t); t.Day = 5000 }, home, nil},
		{"on the day before the last one", func(t *impl.Trek) { onADepot(t); t.Day = 4999 }, home, came(5, 28, false, [2]int{5, 4})},
		{"until the most is eaten", func(t *impl.Trek) { mostGiven(3)(t); t.Party.At, t.Party.Past = 5, pastOf("s") }, home, came(0, 0, false)},
		{"with 99 pages", func(t *impl.Trek) { t.Day, t.Journal = 99, strewnHundred(dice(), 99) }, home, came(11, 22, false, [2]int{5, 4}, [2]int{10, 6})},
		{"with 100 pages", func(t *impl.Trek) { t.Day, t.Journal = 99, strewnHundred(dice(), 100) }, home, func(t *impl.Trek) {
			t.Journal = nil
			passed(t, 11, 22, false, impl.Page{Day: 100, Cell: 11, Food: 22})
		}},
	})
}

func TestStepHomeIsRefusedIfOneCannotReturnAfterwards(t *testing.T) {
	x := beforeADepot()
	p, l, ok := sceneOf(x).returnStep(false)
	if !ok || p.At != 2 || !slices.Equal(l, x.Depots) || sceneOf(x).with(l, p).canReturn() {
		t.Fatalf("the test itself is wrong: %v, %v and %v", p, l, ok)
	}
	checkStep(t, "a calm day", x, impl.Event{Kind: impl.EvHome}, x, false)
	want := trekLike(x)
	want.Party.Food, want.Party.Past, want.Day, want.Eaten = 2, pastOf("s"), 7, 14
	want.Journal = pagesOf([3]int{7, 3, 2})
	checkStep(t, "a day of storm", x, impl.Event{Kind: impl.EvHome, Storm: true}, want, true)
}

func TestStepLay(t *testing.T) {
	lay := func(n int) impl.Event { return impl.Event{Kind: impl.EvLay, N: n} }
	laid := func(food int, depots ...[2]int) func(t *impl.Trek) {
		return func(t *impl.Trek) { t.Party.Food, t.Depots = food, depotsOf(depots...) }
	}
	checkStepCases(t, []stepCase{
		{"some", func(t *impl.Trek) {}, lay(5), laid(20, [2]int{5, 4}, [2]int{10, 6}, [2]int{12, 5})},
		{"nothing", func(t *impl.Trek) {}, lay(0), nil},
		{"one unit", func(t *impl.Trek) {}, lay(1), laid(24, [2]int{5, 4}, [2]int{10, 6}, [2]int{12, 1})},
		{"all", func(t *impl.Trek) {}, lay(25), laid(0, [2]int{5, 4}, [2]int{10, 6}, [2]int{12, 25})},
		{"one unit more", func(t *impl.Trek) {}, lay(26), nil},
		{"a negative number", func(t *impl.Trek) {}, lay(-1), nil},
		{"the greatest int", func(t *impl.Trek) {}, lay(math.MaxInt), nil},
		{"the least int", func(t *impl.Trek) {}, lay(math.MinInt), nil},
		{"beside what is there", func(t *impl.Trek) { t.Party.At = 10 }, lay(5), laid(20, [2]int{5, 4}, [2]int{10, 11})},
		{"at the base", atTheBase(25), lay(25), laid(0, [2]int{0, 25}, [2]int{5, 4}, [2]int{10, 6})},
		{"at the base, without food", atTheBase(0), lay(1), nil},
		{"more than it can carry afterwards", func(t *impl.Trek) { t.Depots, t.Party.Crew, t.Party.Food, t.Given = nil, sick, 200, 236 }, lay(1), laid(199, [2]int{12, 1})},
		{"what it needs and cannot take up again", func(t *impl.Trek) { t.Depots, t.Party.Crew, t.Party.Food, t.Given = nil, sick, 96, 132 }, lay(1), nil},
		{"on the last day", func(t *impl.Trek) { t.Day = 5000 }, lay(25), laid(0, [2]int{5, 4}, [2]int{10, 6}, [2]int{12, 25})},
		{"where the most is given", mostGiven(8), lay(8), laid(0, [2]int{0, 8})},
	})
}

func TestStepTake(t *testing.T) {
	take := func(n int) impl.Event { return impl.Event{Kind: impl.EvTake, N: n} }
	taken := func(food int, depots ...[2]int) func(t *impl.Trek) {
		return func(t *impl.Trek) { t.Party.Food, t.Depots = food, depotsOf(depots...) }
	}
	onADepot := func(t *impl.Trek) { t.Party.At = 10 }
	checkStepCases(t, []stepCase{
		{"some", onADepot, take(4), taken(29, [2]int{5, 4}, [2]int{10, 2})},
		{"nothing", onADepot, take(0), nil},
		{"one unit", onADepot, take(1), taken(26, [2]int{5, 4}, [2]int{10, 5})},
		{"all", onADepot, take(6), taken(31, [2]int{5, 4})},
		{"one unit more", onADepot, take(7), nil},
		{"a negative number", onADepot, take(-1), nil},
		{"the greatest int", onADepot, take(math.MaxInt), nil},
		{"the least int", onADepot, take(math.MinInt), nil},
		{"what just finds room", func(t *impl.Trek) { onADepot(t); t.Party.Food, t.Given = 27, 73 }, take(5), taken(32, [2]int{5, 4}, [2]int{10, 1})},
		{"one unit more than what finds room", func(t *impl.Trek) { onADepot(t); t.Party.Food, t.Given = 27, 73 }, take(6), nil},
		{"where there is none", func(t *impl.Trek) {}, take(1), nil},
		{"beside a depot", func(t *impl.Trek) { t.Party.At = 11 }, take(1), nil},
		{"without food", func(t *impl.Trek) { t.Party.At, t.Party.Food, t.Given, t.Depots = 5, 0, 50, depotsOf([2]int{5, 14}) }, take(14), taken(14)},
		{"at the base", func(t *impl.Trek) { atTheBase(25)(t); t.Depots[0].Cell = 0 }, take(4), taken(29, [2]int{10, 6})},
		{"on the last day", func(t *impl.Trek) { onADepot(t); t.Day = 5000 }, take(6), taken(31, [2]int{5, 4})},
		{"where all are ill", func(t *impl.Trek) { onADepot(t); t.Party.Crew, t.Party.Food, t.Given = sick, 100, 146 }, take(1), nil},
	})
}

func TestStepsKeepExpeditionsValid(t *testing.T) {
	done, refused := map[int]int{}, map[int]int{}
	stormy, limits := 0, 0
	for x, e := range histories(400, 50) {
		want, ok := stepOf(x, e)
		checkStep(t, "strewn", x, e, want, ok)
		got, gotOk := doStep(x, e)
		p, l, may := partsOf(x, e)
		if gotOk && (!may || !sameParty(got.Party, p) || !slices.Equal(got.Depots, l)) {
			t.Errorf("%v of %v: the party is %v and the depots are %v, not %v and %v", e, x, got.Party, got.Depots, p, l)
		}
		if !impl.IsTrek(got) || !impl.EqualTreks(got, want) {
			t.Errorf("%v of %v is %v, which is not valid", e, x, got)
		}
		if gotOk {
			done[e.Kind]++
		} else {
			refused[e.Kind]++
		}
		if gotOk && e.Storm {
			stormy++
		}
		if may && !ok && (x.Day == 5000 || x.Given > 999900) {
			limits++
		}
	}
	for kind := impl.EvGive; kind <= impl.EvTake; kind++ {
		if done[kind] < 200 || refused[kind] < 200 {
			t.Errorf("of the kind %d, %d steps succeed, %d do not", kind, done[kind], refused[kind])
		}
	}
	if stormy < 500 || limits < 20 {
		t.Errorf("%d days are stormy, %d steps end at a limit", stormy, limits)
	}
}

func TestHistoriesEndValid(t *testing.T) {
	ends, long := 0, 0
	before := impl.Trek{}
	for x := range histories(200, 70) {
		if x.Day < before.Day || len(x.Journal) == 0 && len(before.Journal) > 0 {
			ends++
			if !isTrekOf(before) {
				t.Errorf("the test itself is wrong: %v is not valid", before)
			}
			if len(before.Journal) > 20 {
				long++
			}
		}
		before = x
	}
	if ends < 100 || long < 20 {
		t.Errorf("%d histories end, %d of them with many pages", ends, long)
	}
}

func TestStrewnTreksGoOn(t *testing.T) {
	throw := dice()
	done, refused, notValid, lost := 0, 0, 0, 0
	for x := range strewnTreks(8000) {
		valid := isTrekOf(x)
		if !valid {
			notValid++
		}
		for kind := impl.EvGive; kind <= impl.EvTake; kind++ {
			e := impl.Event{Kind: kind, N: 1 + throw(8), Storm: throw(3) == 0}
			if beside := besideOf(x.Land, x.Party.At); kind == impl.EvGo && len(beside) > 0 {
				e.N = beside[throw(len(beside))]
			}
			want, ok := trekLike(x), false
			if valid {
				want, ok = stepOf(x, e)
			}
			checkStep(t, "strewn", x, e, want, ok)
			if ok {
				done++
			} else {
				refused++
			}
			_, _, may := partsOf(x, e)
			if valid && may && !ok && x.Day < 5000 && x.Given < 999900 {
				lost++
			}
		}
	}
	if done < 2000 || refused < 2000 || notValid < 1000 || lost < 1 {
		t.Errorf("%d steps succeed, %d do not; %d expeditions are not valid; %d steps lead where one cannot return", done, refused, notValid, lost)
	}
}

func TestStepsWithEachNumber(t *testing.T) {
	numbers := badCells(len(camp.Cells))
	for n := -3; n < 40; n++ {
		numbers = append(numbers, n)
	}
	for _, at := range []int{12, 10, 5, 0, 19} {
		for _, food := range []int{25, 31, 45} {
			x := changedTrek(func(t *impl.Trek) { t.Party.At, t.Party.Food, t.Given = at, food, 46+food })
			for _, n := range numbers {
				for kind := impl.EvGive; kind <= impl.EvTake; kind++ {
					for _, storm := range []bool{false, true} {
						e := impl.Event{Kind: kind, N: n, Storm: storm}
						want, ok := x, false
						if isTrekOf(x) {
							want, ok = stepOf(x, e)
						}
						checkStep(t, "each number", x, e, want, ok)
					}
				}
			}
		}
	}
}

func TestJournalsBeginAnew(t *testing.T) {
	x, ok := impl.NewTrek(camp, 0, calm, pair)
	for day := 1; day <= 250; day++ {
		if x.Party.Food < 3 {
			x, ok = impl.StepGive(x, 32-x.Party.Food)
		}
		before := x
		x, ok = impl.StepWait(x, false)
		pages := (day-1)%100 + 1
		if !ok || x.Day != day || x.Eaten != 3*day || len(x.Journal) != pages || x.Journal[0].Day != day-pages+1 {
			t.Fatalf("on the day %d, the expedition is %v and %v", day, x, ok)
		}
		if kept := min(pages-1, len(before.Journal)); !slices.Equal(x.Journal[:kept], before.Journal[:kept]) || !isJournalOf(x.Journal) {
			t.Errorf("on the day %d, the journal is %v", day, x.Journal)
		}
	}
}

func TestNoStepsOfBadTreks(t *testing.T) {
	for name, x := range badTreks() {
		for kind := impl.EvGive; kind <= impl.EvTake; kind++ {
			for _, n := range []int{1, 11, 0, math.MaxInt, math.MinInt} {
				for _, storm := range []bool{false, true} {
					checkStep(t, name, x, impl.Event{Kind: kind, N: n, Storm: storm}, x, false)
				}
			}
		}
	}
}

func TestStepsOfExpeditionsKeepTheirArguments(t *testing.T) {
	for _, x := range keptTreks() {
		for kind := impl.EvGive; kind <= impl.EvTake; kind++ {
			for _, n := range []int{1, 11, 5, 0} {
				for _, storm := range []bool{false, true} {
					e := impl.Event{Kind: kind, N: n, Storm: storm}
					checkOwnTrek(t, fmt.Sprint("the step ", e), x, func(x impl.Trek) impl.Trek {
						next, _ := doStep(x, e)
						return next
					})
				}
			}
		}
	}
}

func TestStepsKeepNoState(t *testing.T) {
	x := onTheWay()
	first, _ := impl.StepLay(x, 5)
	x.Party.Food--
	second, ok := impl.StepLay(x, 5)
	x.Given--
	third, again := impl.StepLay(x, 5)
	if first.Party.Food != 20 || ok || second.Party.Food != 24 || !again || third.Party.Food != 19 {
		t.Errorf("while the expedition changes, StepLay is %v, %v and %v", first, second, third)
	}
}
