package tests

import (
	"iter"
	"math"
	"slices"
	"testing"

	"loop.example/g03008/impl"
)

// scene is what the functions of the chapters 10 to 12 are given.
type scene struct {
	x    impl.Land
	base int
	r    impl.Rule
	l    []impl.Depot
	p    impl.Party
}

// oneInThree lets one of three days be a storm, and calm none.
var (
	oneInThree = impl.Rule{Most: 1, Window: 3}
	calm       = impl.Rule{Most: 0, Window: 1}
)

// campScene is in the camp, with the base at the cell 0 and a crew that carries
// 32 and eats 3 a day. From the cell 12 it is four days home, over the cells 11,
// 10 and 5; and six in the worst weather.
func campScene(at int, food int, past string, depots ...[2]int) scene {
	p := impl.Party{At: at, Food: food, Crew: pair, Past: pastOf(past)}
	return scene{x: camp, base: 0, r: oneInThree, l: depotsOf(depots...), p: p}
}

func (s scene) withRule(r impl.Rule) scene {
	s.r = r
	return s
}

func (s scene) withCrew(crew []impl.Member) scene {
	s.p.Crew = crew
	return s
}

func (s scene) withBase(base int) scene {
	s.base = base
	return s
}

// with is the scene with other depots and another party.
func (s scene) with(l []impl.Depot, p impl.Party) scene {
	s.l, s.p = l, p
	return s
}

// isValid takes a scene in a valid land.
func (s scene) isValid() bool {
	return impl.IsRule(s.r) && areDepotsOf(s.x, s.l) && impl.IsParty(s.x, s.p)
}

// knownDays are allDaysOf the lands that have been asked for, by their drawings.
var knownDays = map[string][][]int{}

func (s scene) days() [][]int {
	drawing := drawingOf(s.x)
	if knownDays[drawing] == nil {
		knownDays[drawing] = allDaysOf(s.x)
	}
	return knownDays[drawing]
}

func isOpenOf(x impl.Land, n int) bool {
	return 0 <= n && n < len(x.Cells) && x.Cells[n] != impl.LdRock
}

// wayHome is WayTo the base in a valid land.
func (s scene) wayHome() []int {
	if !isOpenOf(s.x, s.p.At) || !isOpenOf(s.x, s.base) {
		return nil
	}
	return wayOf(s.x, s.days(), s.p.At, s.base)
}

// depotAt is the food of a valid depot.
func (s scene) depotAt(cell int) int {
	if place, found := placeOf(s.l, cell); found {
		return s.l[place].Food
	}
	return 0
}

// findsRoom is how much of what is at a cell a party with this food takes up.
func (s scene) findsRoom(food int, cell int) int {
	return max(0, min(s.depotAt(cell), capOf(s.p.Crew)-food))
}

// leftOf is LeftAtHome in a valid land, told day by day.
func (s scene) leftOf() int {
	way := s.wayHome()
	if !s.isValid() || len(way) == 0 {
		return -1
	}
	food, past := s.p.Food, slices.Clone(s.p.Past)
	food += s.findsRoom(food, way[0])
	for len(way) > 1 {
		food -= needOf(s.p.Crew)
		if food < 0 {
			return -1
		}
		storm := mayStormOf(s.r, past)
		past = append(past, storm)
		if !storm {
			way = way[1:]
			food += s.findsRoom(food, way[0])
		}
	}
	return food
}

// needOfHome is NeedHome in a valid land.
func (s scene) needOfHome() int {
	s.l = nil
	way := s.wayHome()
	if !s.isValid() || len(way) == 0 {
		return -1
	}
	return needOf(s.p.Crew) * worstDaysOf(s.r, s.p.Past, len(way)-1)
}

// after is the party when it has eaten, is at a cell, and the day has passed.
func (s scene) after(at int, storm bool) impl.Party {
	all := append(slices.Clone(s.p.Past), storm)
	return impl.Party{At: at, Food: s.p.Food - needOf(s.p.Crew), Crew: s.p.Crew, Past: all[max(0, len(all)-10):]}
}

// strewnScenes are valid but for some of which the base or the party is on a
// rock. The party has about as much food as it needs, with depots and without.
func strewnScenes(count int) iter.Seq[scene] {
	lands := []impl.Land{camp, spiral, ring, cross, gate, row, line, field, plain, landOf("."), landOf(".."), landOf("....."), landOf("......", "......"), landOf("...", "..."), landOf("..i..", "i.#..", ".....")}
	throw := dice()
	return func(yield func(scene) bool) {
		for range count {
			if !yield(strewnScene(throw, lands[throw(len(lands))])) {
				return
			}
		}
	}
}

func strewnScene(throw func(sides int) int, x impl.Land) scene {
	s := scene{x: x, base: throw(len(x.Cells)), r: impl.Rule{Window: 1 + throw(4)}}
	if throw(6) == 0 {
		s.r.Window = 1 + throw(10)
	}
	s.r.Most = throw(s.r.Window)
	s.p = impl.Party{At: throw(len(x.Cells)), Crew: strewnCrew(throw, 1+throw(3), 2+throw(6)), Past: strewnPast(throw, throw(11), 1+throw(4))}
	for _, d := range strewnDepots(throw, x, 2+throw(4)) {
		if throw(3) > 0 {
			d.Food = 1 + throw(1+2*needOf(s.p.Crew))
		}
		s.l = append(s.l, d)
	}
	if throw(3) == 0 {
		s.l = nil
	}
	s.p.Food = strewnFood(throw, s)
	return s
}

func strewnFood(throw func(sides int) int, s scene) int {
	need, day := max(0, s.needOfHome()), needOf(s.p.Crew)
	switch throw(6) {
	case 0:
		return throw(capOf(s.p.Crew) + 20)
	case 1:
		return max(0, need-throw(4*day))
	case 2:
		return need + throw(3)
	case 3:
		return need + throw(6*day)
	case 4:
		return throw(1 + need)
	default:
		return max(0, need-throw(3))
	}
}

// badScenes are ones from which nobody can return, with what is wrong with each.
func badScenes() iter.Seq2[string, scene] {
	good := campScene(12, 25, "..", [2]int{10, 5}, [2]int{12, 7})
	return func(yield func(string, scene) bool) {
		for _, bad := range []struct {
			name   string
			scenes []scene
		}{
			{"the land", scenesInBadLands(good)},
			{"the base", scenesWithBadBases(good)},
			{"the rule", scenesWithBadRules(good)},
			{"the depots", scenesWithBadDepots(good)},
			{"the party", scenesWithBadParties(good)},
		} {
			for _, s := range bad.scenes {
				if !yield(bad.name, s) {
					return
				}
			}
		}
	}
}

func scenesInBadLands(good scene) []scene {
	scenes := []scene{}
	for _, x := range badLands() {
		for _, n := range []int{0, 1} {
			s := good
			s.x, s.base, s.p.At, s.l = x, n, 0, nil
			scenes = append(scenes, s, s.with(depotsOf([2]int{0, 5}), s.p))
		}
	}
	return scenes
}

func scenesWithBadBases(good scene) []scene {
	scenes := []scene{good.withBase(6), good.withBase(7), good.withBase(16)}
	for _, base := range badCells(len(good.x.Cells)) {
		scenes = append(scenes, good.withBase(base))
	}
	s := good
	// There is no way over the wall.
	s.x, s.base, s.p.At, s.l = wall, 0, 4, nil
	return append(scenes, s, s.with(depotsOf([2]int{0, 5}, [2]int{4, 5}), s.p))
}

func scenesWithBadRules(good scene) []scene {
	scenes := []scene{}
	for _, r := range badRules {
		scenes = append(scenes, good.withRule(r))
	}
	return scenes
}

func scenesWithBadDepots(good scene) []scene {
	lists := [][]impl.Depot{
		depotsOf([2]int{6, 5}),
		depotsOf([2]int{12, 0}),
		depotsOf([2]int{12, -1}),
		depotsOf([2]int{12, 10001}),
		depotsOf([2]int{12, math.MaxInt}),
		depotsOf([2]int{12, math.MinInt}),
		depotsOf([2]int{12, 5}, [2]int{12, 5}),
		depotsOf([2]int{12, 5}, [2]int{10, 5}),
		depotsOf([2]int{-1, 5}, [2]int{12, 5}),
		depotsOf([2]int{12, 5}, [2]int{20, 5}),
		depotsOf([2]int{12, 5}, [2]int{math.MaxInt, 5}),
		make([]impl.Depot, 1),
	}
	scenes := []scene{}
	for _, l := range lists {
		scenes = append(scenes, good.with(l, good.p))
	}
	s := good
	s.x, s.l = plain, append(slices.Clone(manyDepots), impl.Depot{Cell: 63, Food: 1})
	return append(scenes, s)
}

func scenesWithBadParties(good scene) []scene {
	scenes := []scene{}
	spoil := func(change func(p *impl.Party)) {
		s := good
		change(&s.p)
		scenes = append(scenes, s)
	}
	for _, at := range append(badCells(len(good.x.Cells)), 6, 7, 16) {
		spoil(func(p *impl.Party) { p.At = at })
	}
	for _, food := range []int{-1, -3, 10001, 10003, math.MaxInt, math.MinInt} {
		spoil(func(p *impl.Party) { p.Food = food })
		spoil(func(p *impl.Party) { p.At, p.Food = good.base, food })
	}
	for _, crew := range badCrews() {
		spoil(func(p *impl.Party) { p.Crew = crew })
	}
	for _, days := range []int{11, 12, 400, 1000} {
		spoil(func(p *impl.Party) { p.Past = make([]bool, days) })
	}
	return scenes
}

// guardedScene is a scene of guarded lists.
type guardedScene struct {
	scene
	cells guarded[int]
	l     guarded[impl.Depot]
	p     guardedParty
}

func guardScene(s scene) guardedScene {
	g := guardedScene{scene: s, cells: guard(s.x.Cells...), l: guard(s.l...), p: guardParty(s.p)}
	g.scene.x.Cells, g.scene.l, g.scene.p = g.cells.list, g.l.list, g.p.party
	return g
}

func (g guardedScene) check(t *testing.T, name string) {
	t.Helper()
	g.cells.check(t, name)
	g.l.check(t, name)
	g.p.check(t, name)
}

// checkOwnScene calls a function twice, as checkOwnMemory does for lists, and
// looks at the party and the depots that it returns.
func checkOwnScene(t *testing.T, name string, s scene, call func(s scene) (impl.Party, []impl.Depot)) {
	t.Helper()
	g := guardScene(s)
	checkOwnParty(t, name, g.p, func() impl.Party {
		p, _ := call(g.scene)
		return p
	})
	checkOwnMemory(t, name, g.l, func() []impl.Depot {
		_, l := call(g.scene)
		return l
	})
	g.check(t, name)
}
