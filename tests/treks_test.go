package tests

import (
	"fmt"
	"iter"
	"math"
	"slices"
	"testing"

	"loop.example/g03008/impl"
)

// doStep is the step for an event of one of the six kinds.
func doStep(t impl.Trek, e impl.Event) (impl.Trek, bool) {
	switch e.Kind {
	case impl.EvGive:
		return impl.StepGive(t, e.N)
	case impl.EvGo:
		return impl.StepGo(t, e.N, e.Storm)
	case impl.EvWait:
		return impl.StepWait(t, e.Storm)
	case impl.EvHome:
		return impl.StepHome(t, e.Storm)
	case impl.EvLay:
		return impl.StepLay(t, e.N)
	case impl.EvTake:
		return impl.StepTake(t, e.N)
	}
	panic("there is no such step")
}

// stepOf is the same, told by the models of the chapters before. It takes a
// valid expedition; one that it gives is valid, too.
func stepOf(t impl.Trek, e impl.Event) (impl.Trek, bool) {
	s, x, ok := sceneOf(t), trekLike(t), false
	switch e.Kind {
	case impl.EvGive:
		ok = t.Party.At == t.Base && e.N >= 1 && e.N <= capOf(t.Party.Crew)-t.Party.Food
		if ok {
			x.Party.Food, x.Given = x.Party.Food+e.N, x.Given+e.N
		}
	case impl.EvGo:
		x.Party, ok = s.setOutOf(e.N, e.Storm)
		ok = ok && e.N != t.Party.At
	case impl.EvWait:
		x.Party, ok = s.setOutOf(t.Party.At, e.Storm)
	case impl.EvHome:
		x.Party, x.Depots, ok = s.returnStepOf(e.Storm)
	case impl.EvLay:
		x.Party, x.Depots, ok = s.layStepOf(e.N)
	case impl.EvTake:
		x.Party, x.Depots, ok = s.takeStepOf(e.N)
	}
	if ok && takesADay(e.Kind) {
		x = withDayOf(x)
	}
	// All else that makes it valid does not change.
	if !ok || sceneOf(x).leftOf() < 0 || x.Day > 5000 || x.Given > 1000000 || x.Eaten > 1000000 {
		return t, false
	}
	return x, true
}

func takesADay(kind int) bool {
	return kind == impl.EvGo || kind == impl.EvWait || kind == impl.EvHome
}

// withDayOf is an expedition of which only the party tells that a day passed.
func withDayOf(t impl.Trek) impl.Trek {
	t.Day++
	t.Eaten += needOf(t.Party.Crew)
	page, before := impl.Page{Day: t.Day, Cell: t.Party.At, Food: t.Party.Food}, 0
	if len(t.Journal) == 100 {
		t.Journal = nil
	} else if len(t.Journal) > 0 {
		before = t.Journal[len(t.Journal)-1].Seal
	}
	page.Seal = hashOf(before, page.Day, page.Cell, page.Food)
	t.Journal = append(slices.Clone(t.Journal), page)
	return t
}

// partsOf are the party and the depots behind a step, told by the functions of
// the chapters 10 to 12.
func partsOf(t impl.Trek, e impl.Event) (impl.Party, []impl.Depot, bool) {
	s := sceneOf(t)
	switch e.Kind {
	case impl.EvGo:
		p, ok := s.goStep(e.N, e.Storm)
		return p, t.Depots, ok
	case impl.EvWait:
		p, ok := s.waitStep(e.Storm)
		return p, t.Depots, ok
	case impl.EvHome:
		return s.returnStep(e.Storm)
	case impl.EvLay:
		return s.layStep(e.N)
	case impl.EvTake:
		return s.takeStep(e.N)
	}
	p, ok := t.Party, t.Party.At == t.Base && e.N >= 1 && e.N <= impl.RoomFor(t.Party)
	if ok {
		p.Food += e.N
	}
	return p, t.Depots, ok
}

// The lands in which the histories of the tests are.
var historyLands = []impl.Land{camp, camp, camp, spiral, ring, row, line, field, plain, gate, snake, landOf("."), landOf(".."), landOf("......", "......")}

// strewnStart is a new expedition, or a valid one at its base that is not far
// from the last day, from the most that may be given, or from a hundred pages.
func strewnStart(throw func(sides int) int) impl.Trek {
	x := historyLands[throw(len(historyLands))]
	s := scene{x: x, base: throw(len(x.Cells)), r: impl.Rule{Window: 1 + throw(5)}}
	for !isOpenOf(x, s.base) {
		s.base = throw(len(x.Cells))
	}
	s.r.Most = throw(min(s.r.Window, 3))
	s.p = impl.Party{At: s.base, Crew: strewnCrew(throw, 1+throw(3), 2+throw(6))}
	if throw(2) == 0 {
		s.p.Crew = pair
	}
	t := trekOf(s, 0, 0, nil)
	switch throw(8) {
	case 0:
		t.Day = 5000 - throw(30)
	case 1:
		t.Given = 1000000 - throw(80)
		t.Eaten = t.Given
	case 2:
		t.Journal = strewnHundred(throw, 90+throw(11))
		last := &t.Journal[len(t.Journal)-1]
		last.Cell, t.Day = s.base, last.Day
		t.Journal = sealed(t.Journal)
	}
	return t
}

// strewnHundred is a journal of so many pages, a day for each.
func strewnHundred(throw func(sides int) int, count int) []impl.Page {
	l := []impl.Page{}
	for day := range count {
		l = append(l, impl.Page{Day: day, Cell: throw(64), Food: throw(10001)})
	}
	return sealed(l)
}

// likelyEvent is one that may well succeed.
func likelyEvent(throw func(sides int) int, t impl.Trek) impl.Event {
	room := max(0, capOf(t.Party.Crew)-t.Party.Food)
	if t.Party.At == t.Base && throw(3) == 0 || t.Party.Food == 0 {
		return impl.Event{Kind: impl.EvGive, N: room + throw(3) - 1 - throw(2)*throw(1+room/2)}
	}
	beside := besideOf(t.Land, t.Party.At)
	storm := throw(3) == 0
	switch throw(12) {
	case 0, 1, 2, 3, 4:
		if len(beside) > 0 {
			return impl.Event{Kind: impl.EvGo, N: beside[throw(len(beside))], Storm: storm}
		}
		return impl.Event{Kind: impl.EvGo, N: t.Party.At, Storm: storm}
	case 5, 6:
		return impl.Event{Kind: impl.EvWait, Storm: storm}
	case 7, 8:
		return impl.Event{Kind: impl.EvHome, Storm: storm}
	case 9, 10:
		return impl.Event{Kind: impl.EvLay, N: throw(2 + t.Party.Food/(1+throw(3)))}
	default:
		return impl.Event{Kind: impl.EvTake, N: throw(2 + min(room, sceneOf(t).depotAt(t.Party.At)))}
	}
}

// histories gives so many histories of so many events: each event, which need
// not succeed, with the expedition to which it happens.
func histories(count int, events int) iter.Seq2[impl.Trek, impl.Event] {
	throw := dice()
	return func(yield func(impl.Trek, impl.Event) bool) {
		for range count {
			t := strewnStart(throw)
			for range events {
				e := likelyEvent(throw, t)
				if !yield(t, e) {
					return
				}
				t, _ = stepOf(t, e)
			}
		}
	}
}

// spoiledTreks each make a valid expedition one that is not valid, by its
// numbers or by what it remembers.
var spoiledTreks = []func(t *impl.Trek){
	func(t *impl.Trek) { t.Given++ },
	func(t *impl.Trek) { t.Given-- },
	func(t *impl.Trek) { t.Eaten++ },
	func(t *impl.Trek) { t.Eaten-- },
	func(t *impl.Trek) { t.Given, t.Eaten = t.Given-t.Eaten-1, -1 },
	func(t *impl.Trek) { t.Given, t.Eaten = 1000001, t.Eaten+1000001-t.Given },
	func(t *impl.Trek) { t.Given, t.Eaten = 1000001+t.Given-t.Eaten, 1000001 },
	func(t *impl.Trek) { t.Given, t.Eaten = math.MaxInt, math.MaxInt-t.Given+t.Eaten },
	func(t *impl.Trek) { t.Given, t.Eaten = math.MinInt, math.MinInt-t.Given+t.Eaten },
	func(t *impl.Trek) { t.Day, t.Journal = -1, nil },
	func(t *impl.Trek) { t.Day = 5001 },
	func(t *impl.Trek) { t.Day = math.MaxInt },
	func(t *impl.Trek) { t.Day, t.Journal = math.MinInt, nil },
	func(t *impl.Trek) { t.Day, t.Journal = 7, pagesOf([3]int{8, 1, 1}) },
	func(t *impl.Trek) { t.Party.Past = pastOf("ss") },
	func(t *impl.Trek) { t.Party.Past = pastOf("s.s...") },
	func(t *impl.Trek) { t.Party.Past = make([]bool, 11) },
	func(t *impl.Trek) { t.Base = 6 },
	func(t *impl.Trek) { t.Base = math.MaxInt },
	func(t *impl.Trek) { t.Party.At = math.MinInt },
	func(t *impl.Trek) { t.Land.Cells[19] = 3 },
	func(t *impl.Trek) { t.Land.Cells = t.Land.Cells[:19] },
	func(t *impl.Trek) { t.Rule.Most = 3 },
	func(t *impl.Trek) { t.Rule.Window = 11 },
	func(t *impl.Trek) { t.Party.Crew[1].Id = 1 },
}

// badTreks are not valid, most of them for one reason: on the way and at the
// base.
func badTreks() iter.Seq2[string, impl.Trek] {
	return func(yield func(string, impl.Trek) bool) {
		for name, s := range badScenes() {
			if !yield(name, trekOf(s, 5, 10, nil)) {
				return
			}
		}
		for _, at := range []int{12, 0} {
			start := changedTrek(func(t *impl.Trek) { t.Party.At = at })
			for i, spoil := range spoiledTreks {
				t := trekLike(start)
				spoil(&t)
				if !yield(fmt.Sprint("the change ", i), t) {
					return
				}
			}
			for _, l := range badJournals() {
				t := trekLike(start)
				t.Journal, t.Day = l, 4000
				if !yield("the journal", t) {
					return
				}
			}
		}
	}
}

func TestBadTreksAreNotValid(t *testing.T) {
	for name, x := range badTreks() {
		if impl.IsTrek(x) {
			t.Errorf("%s: the test itself is wrong: %s is valid", name, brief(x))
		}
	}
}

// keptTreks are the ones with which it is tested that nothing is written.
func keptTreks() []impl.Trek {
	treks := []impl.Trek{
		onTheWay(),
		changedTrek(func(t *impl.Trek) { t.Party.At, t.Depots = 0, depotsOf([2]int{0, 9}, [2]int{5, 5}); t.Given = 75 }),
		changedTrek(func(t *impl.Trek) { t.Party.At = 10 }),
		changedTrek(func(t *impl.Trek) { t.Day, t.Journal = 5000, hundredPages(100) }),
		changedTrek(func(t *impl.Trek) { t.Day, t.Journal = 4990, strewnHundred(dice(), 100) }),
		changedTrek(func(t *impl.Trek) { t.Party.Past = pastOf("s..s......"); t.Journal = nil }),
	}
	for _, change := range trekChanges {
		treks = append(treks, changedTrek(change))
	}
	for s := range strewnTreks(60) {
		treks = append(treks, s)
	}
	return treks
}

// checkOwnTrek calls a function twice, as checkOwnMemory does for lists.
func checkOwnTrek(t *testing.T, name string, x impl.Trek, call func(x impl.Trek) impl.Trek) {
	t.Helper()
	g := guardTrek(x)
	checkOwnMemory(t, name+", its land", g.cells, func() []int { return call(g.trek).Land.Cells })
	checkOwnMemory(t, name+", its depots", g.depots, func() []impl.Depot { return call(g.trek).Depots })
	checkOwnParty(t, name, g.party, func() impl.Party { return call(g.trek).Party })
	checkOwnMemory(t, name+", its journal", g.journal, func() []impl.Page { return call(g.trek).Journal })
	g.check(t, name)
}
