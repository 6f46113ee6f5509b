package tests

import (
	"iter"
	"math"
	"slices"
	"testing"

	"loop.example/g03008/impl"
)

// pastOf is the past that a text draws, with an s for a storm.
func pastOf(text string) []bool {
	past := []bool{}
	for _, sign := range text {
		past = append(past, sign == 's')
	}
	return past
}

// drawingOfPast is what pastOf takes.
func drawingOfPast(past []bool) string {
	text := make([]byte, len(past))
	for i, storm := range past {
		text[i] = '.'
		if storm {
			text[i] = 's'
		}
	}
	return string(text)
}

// allPasts are those of up to so many days.
func allPasts(most int) iter.Seq[[]bool] {
	return func(yield func([]bool) bool) {
		for days := range most + 1 {
			for storms := range 1 << days {
				past := make([]bool, days)
				for i := range past {
					past[i] = storms>>i&1 == 1
				}
				if !yield(past) {
					return
				}
			}
		}
	}
}

// strewnPast has so many days, of which about one in every so many is a storm.
func strewnPast(throw func(sides int) int, days int, every int) []bool {
	past := make([]bool, days)
	for i := range past {
		past[i] = throw(every) == 0
	}
	return past
}

// allRules are all that are valid.
func allRules() []impl.Rule {
	rules := []impl.Rule{}
	for window := 1; window <= impl.MaxWindow; window++ {
		for most := range window {
			rules = append(rules, impl.Rule{Most: most, Window: window})
		}
	}
	return rules
}

// badRules are not valid. Some would be if Window - 1 did not wrap around, or
// if Most were compared with it alone.
var badRules = []impl.Rule{
	{},
	{Most: -1, Window: 0},
	{Most: -2, Window: -1},
	{Most: 0, Window: -1},
	{Most: 0, Window: -3},
	{Most: 1, Window: 1},
	{Most: 3, Window: 3},
	{Most: 4, Window: 3},
	{Most: 10, Window: 10},
	{Most: 11, Window: 10},
	{Most: -1, Window: 1},
	{Most: -1, Window: 3},
	{Most: -1, Window: 10},
	{Most: -9, Window: 10},
	{Most: 0, Window: 11},
	{Most: 5, Window: 11},
	{Most: 10, Window: 11},
	{Most: -1, Window: 11},
	{Most: 3, Window: 400},
	{Most: 0, Window: math.MaxInt},
	{Most: 2, Window: math.MaxInt},
	{Most: 0, Window: math.MinInt},
	{Most: 2, Window: math.MinInt},
	{Most: math.MaxInt, Window: math.MinInt},
	{Most: math.MaxInt, Window: 3},
	{Most: math.MinInt, Window: 3},
	{Most: math.MinInt, Window: math.MaxInt},
}

// stormsOf counts storms.
func stormsOf(days []bool) int {
	storms := 0
	for _, storm := range days {
		if storm {
			storms++
		}
	}
	return storms
}

// mayStormOf is MayStorm of a valid rule, told by the last days of the past.
func mayStormOf(r impl.Rule, past []bool) bool {
	return stormsOf(past[max(0, len(past)-(r.Window-1)):]) < r.Most
}

// well and ill are members with an Id, a Strength and a Need.
func well(id int, strength int, need int) impl.Member {
	return impl.Member{Id: id, Strength: strength, Need: need}
}

func ill(id int, strength int, need int) impl.Member {
	return impl.Member{Id: id, Strength: strength, Need: need, Ill: true}
}

// The crews that the tests have.
var (
	pair = []impl.Member{well(1, 20, 2), well(2, 12, 1)}
	trio = []impl.Member{well(1, 20, 2), ill(4, 25, 3), well(6, 20, 1)}
	full = []impl.Member{well(3, 40, 2), well(7, 55, 3), ill(8, 90, 4), well(20, 55, 1), well(21, 0, 5), ill(50, 10, 10), well(98, 54, 2), well(99, 1, 1)}
	// weak can carry nothing, though all are well.
	weak   = []impl.Member{well(5, 0, 4), well(9, 0, 6)}
	sick   = []impl.Member{ill(2, 100, 10), ill(30, 70, 1), ill(31, 71, 5)}
	strong = []impl.Member{well(1, 100, 10), well(2, 100, 10), well(3, 100, 10), well(4, 100, 10), well(96, 100, 10), well(97, 100, 10), well(98, 100, 10), well(99, 100, 10)}
)

var namedCrews = [][]impl.Member{pair, trio, full, weak, sick, strong, {well(1, 0, 1)}, {well(99, 100, 10)}, {ill(1, 0, 1)}, {ill(99, 100, 10)}}

// strewnCrews are valid, of every size, and with few and with many who are ill.
func strewnCrews() [][]impl.Member {
	throw := dice()
	crews := [][]impl.Member{}
	for size := 1; size <= impl.MaxCrew; size++ {
		for _, sides := range []int{1, 2, 3, 9} {
			for range 12 {
				crews = append(crews, strewnCrew(throw, size, sides))
			}
		}
	}
	return crews
}

// strewnCrew has so many members, of whom about one in every so many is ill.
func strewnCrew(throw func(sides int) int, size int, every int) []impl.Member {
	crew, id := []impl.Member{}, 0
	for range size {
		id += 1 + throw(12)
		crew = append(crew, impl.Member{Id: id, Strength: min(throw(13)*10, 100), Need: 1 + throw(10), Ill: throw(every) == 0})
	}
	return crew
}

// goodCrews are all valid ones that the tests have.
func goodCrews() [][]impl.Member {
	return append(strewnCrews(), namedCrews...)
}

// needOf is NeedOf a valid crew.
func needOf(l []impl.Member) int {
	need := 0
	for _, m := range l {
		need += m.Need
	}
	return need
}

// capOf is CapOf a valid crew.
func capOf(l []impl.Member) int {
	load := 0
	for _, m := range l {
		if !m.Ill {
			load += m.Strength
		}
	}
	return load
}

// badCrews are not valid, most of them for one reason.
func badCrews() [][]impl.Member {
	crews := [][]impl.Member{
		nil,
		{},
		{{}},
		make([]impl.Member, impl.MaxCrew),
		make([]impl.Member, impl.MaxCrew+1),
		{well(1, 1, 1), well(2, 1, 1), well(3, 1, 1), well(4, 1, 1), well(5, 1, 1), well(6, 1, 1), well(7, 1, 1), well(8, 1, 1), well(9, 1, 1)},
		{well(1, 1, 1), ill(1, 2, 2)},
		{ill(2, 1, 1), well(1, 2, 2)},
		{well(1, 1, 1), well(3, 1, 1), well(3, 1, 1)},
		{well(1, 1, 1), well(3, 9, 1), well(2, 1, 1)},
		{well(2, 1, 1), well(3, 1, 1), ill(1, 1, 1)},
		{well(1, 1, 1), well(2, 1, 1), well(1, 1, 1)},
		{well(99, 1, 1), ill(98, 1, 1)},
	}
	for _, good := range [][]impl.Member{pair, trio, full, {well(40, 30, 5)}, {ill(40, 30, 5)}} {
		for i := range good {
			for _, spoil := range badFields {
				crew := append([]impl.Member{}, good...)
				spoil(&crew[i])
				crews = append(crews, crew)
			}
		}
	}
	return crews
}

// badFields each spoil a member who was valid, wherever in a crew.
var badFields = []func(m *impl.Member){
	func(m *impl.Member) { m.Id = 0 },
	func(m *impl.Member) { m.Id = -1 },
	func(m *impl.Member) { m.Id = 100 },
	func(m *impl.Member) { m.Id = math.MaxInt },
	func(m *impl.Member) { m.Id = math.MinInt },
	func(m *impl.Member) { m.Strength = -1 },
	func(m *impl.Member) { m.Strength = 101 },
	func(m *impl.Member) { m.Strength = math.MaxInt },
	func(m *impl.Member) { m.Strength = math.MinInt },
	func(m *impl.Member) { m.Need = 0 },
	func(m *impl.Member) { m.Need = -1 },
	func(m *impl.Member) { m.Need = 11 },
	func(m *impl.Member) { m.Need = math.MaxInt },
	func(m *impl.Member) { m.Need = math.MinInt },
}

// depotsOf are depots, each given as its cell and its food.
func depotsOf(pairs ...[2]int) []impl.Depot {
	l := []impl.Depot{}
	for _, pair := range pairs {
		l = append(l, impl.Depot{Cell: pair[0], Food: pair[1]})
	}
	return l
}

// strewnDepots are valid ones of a land: each of its open cells has one with a
// chance of one in so many, as long as there are fewer than 20.
func strewnDepots(throw func(sides int) int, x impl.Land, every int) []impl.Depot {
	foods := []int{1, 2, 3, 17, 400, 5000, 9999, 10000}
	l := []impl.Depot{}
	for n, kind := range x.Cells {
		if kind != impl.LdRock && throw(every) == 0 && len(l) < 20 {
			l = append(l, impl.Depot{Cell: n, Food: foods[throw(len(foods))]})
		}
	}
	return l
}

// areDepotsOf is AreDepots in a valid land.
func areDepotsOf(x impl.Land, l []impl.Depot) bool {
	for i, d := range l {
		isOpen := 0 <= d.Cell && d.Cell < len(x.Cells) && x.Cells[d.Cell] != impl.LdRock
		if !isOpen || d.Food < 1 || d.Food > 10000 || i > 0 && l[i-1].Cell >= d.Cell {
			return false
		}
	}
	return len(l) <= 20
}

// guardedParty is a party of guarded lists.
type guardedParty struct {
	party impl.Party
	crew  guarded[impl.Member]
	past  guarded[bool]
}

func guardParty(p impl.Party) guardedParty {
	g := guardedParty{party: p, crew: guard(p.Crew...), past: guard(p.Past...)}
	g.party.Crew, g.party.Past = g.crew.list, g.past.list
	return g
}

func (g guardedParty) check(t *testing.T, name string) {
	t.Helper()
	g.crew.check(t, name)
	g.past.check(t, name)
}

// checkOwnParty calls a function twice, as checkOwnMemory does for lists.
func checkOwnParty(t *testing.T, name string, argument guardedParty, call func() impl.Party) {
	t.Helper()
	checkOwnMemory(t, name, argument.crew, func() []impl.Member { return call().Crew })
	checkOwnMemory(t, name, argument.past, func() []bool { return call().Past })
	argument.check(t, name)
}

// sameParty tells all fields of two parties apart.
func sameParty(a impl.Party, b impl.Party) bool {
	return a.At == b.At && a.Food == b.Food && slices.Equal(a.Crew, b.Crew) && slices.Equal(a.Past, b.Past)
}
