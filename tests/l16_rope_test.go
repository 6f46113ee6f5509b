package tests

import (
	"iter"
	"math"
	"slices"
	"testing"

	"loop.example/g03008/impl"
)

// sizesOf are the sizes of the teams of so many who are well, as the document
// says: by 3 as long as more than 4 are left.
var sizesOf = [][]int{{}, {}, {2}, {3}, {2, 2}, {3, 2}, {3, 3}, {3, 2, 2}, {3, 3, 2}}

// teamsOf is RopeTeams of a valid crew.
func teamsOf(l []impl.Member) [][]int {
	ids, teams := idsOf(healthyOf(l)), [][]int{}
	for _, size := range sizesOf[len(ids)] {
		teams = append(teams, ids[:size])
		ids = ids[size:]
	}
	return teams
}

// everyIllness are crews of every size with every choice of who is ill.
func everyIllness() iter.Seq[[]impl.Member] {
	return func(yield func([]impl.Member) bool) {
		for size := 1; size <= impl.MaxCrew; size++ {
			for choice := range 1 << size {
				crew := []impl.Member{}
				for i := range size {
					crew = append(crew, impl.Member{Id: 3 + 7*i, Strength: 10 * (i % 4), Need: 1, Ill: choice>>i&1 == 1})
				}
				if !yield(crew) {
					return
				}
			}
		}
	}
}

func sameTeams(a [][]int, b [][]int) bool {
	return slices.EqualFunc(a, b, slices.Equal[[]int])
}

// areRopedOf is AreRoped of a valid crew.
func areRopedOf(l []impl.Member, teams [][]int) bool {
	free := idsOf(healthyOf(l))
	for _, team := range teams {
		if len(team) != 2 && len(team) != 3 {
			return false
		}
		for _, id := range team {
			place := slices.Index(free, id)
			if place < 0 {
				return false
			}
			free = slices.Delete(free, place, place+1)
		}
	}
	return true
}

func checkRoped(t *testing.T, name string, l []impl.Member, teams [][]int, want bool) {
	t.Helper()
	if got := impl.AreRoped(l, teams); got != want {
		t.Errorf("%s: AreRoped(%v, %v) is %v", name, l, teams, got)
	}
}

func TestRopeTeams(t *testing.T) {
	cases := []struct {
		name string
		l    []impl.Member
		want [][]int
	}{
		{"two", pair, [][]int{{1, 2}}},
		{"two, one ill", []impl.Member{well(1, 5, 1), ill(2, 5, 1)}, nil},
		{"two, both ill", []impl.Member{ill(1, 5, 1), ill(2, 5, 1)}, nil},
		{"three, one ill", trio, [][]int{{1, 6}}},
		{"three", []impl.Member{well(5, 0, 4), well(9, 0, 6), well(12, 0, 1)}, [][]int{{5, 9, 12}}},
		{"eight, two ill", full, [][]int{{3, 7, 20}, {21, 98, 99}}},
		{"eight", strong, [][]int{{1, 2, 3}, {4, 96, 97}, {98, 99}}},
		{"seven", strong[:7], [][]int{{1, 2, 3}, {4, 96}, {97, 98}}},
		{"six", strong[:6], [][]int{{1, 2, 3}, {4, 96, 97}}},
		{"five", strong[:5], [][]int{{1, 2, 3}, {4, 96}}},
		{"four", strong[:4], [][]int{{1, 2}, {3, 4}}},
		{"one", strong[:1], nil},
		{"one, ill", []impl.Member{ill(1, 5, 1)}, nil},
		{"all ill", sick, nil},
		{"nobody", nil, nil},
		{"nine", append(slices.Clone(strong[1:]), well(1, 1, 1), well(2, 1, 1)), nil},
		{"not in order", []impl.Member{well(2, 5, 1), well(1, 5, 1)}, nil},
	}
	for _, c := range cases {
		got := impl.RopeTeams(c.l)
		if !sameTeams(got, c.want) {
			t.Errorf("%s: RopeTeams(%v) are %v, not %v", c.name, c.l, got, c.want)
		}
		if can := impl.CanRope(c.l); can != (len(c.want) > 0) {
			t.Errorf("%s: CanRope(%v) is %v", c.name, c.l, can)
		}
	}
}

func TestRopeTeamsOfEveryIllness(t *testing.T) {
	for l := range everyIllness() {
		got := impl.RopeTeams(l)
		if want := teamsOf(l); !sameTeams(got, want) {
			t.Errorf("RopeTeams(%v) are %v, not %v", l, got, want)
		}
		if can := impl.CanRope(l); can != (len(healthyOf(l)) >= 2) {
			t.Errorf("CanRope(%v) is %v", l, can)
		}
		checkRoped(t, "its teams", l, got, true)
	}
}

func TestNobodyIsAloneOnARope(t *testing.T) {
	for _, l := range goodCrews() {
		ids := []int{}
		for _, team := range impl.RopeTeams(l) {
			if len(team) < 2 || len(team) > 3 {
				t.Errorf("of %v, %v are a team", l, team)
			}
			ids = append(ids, team...)
		}
		if healthy := idsOf(healthyOf(l)); len(healthy) >= 2 && !slices.Equal(ids, healthy) {
			t.Errorf("of %v, %v are on ropes", l, ids)
		}
		checkRoped(t, "its teams", l, impl.RopeTeams(l), true)
	}
}

func TestAreRoped(t *testing.T) {
	five := []impl.Member{well(1, 1, 1), well(2, 2, 1), well(3, 0, 1), ill(4, 1, 1), well(5, 2, 1)}
	cases := []struct {
		name  string
		l     []impl.Member
		teams [][]int
		want  bool
	}{
		{"two", five, [][]int{{1, 2}}, true},
		{"three", five, [][]int{{1, 2, 3}}, true},
		{"two and two", five, [][]int{{1, 2}, {3, 5}}, true},
		{"in any order", five, [][]int{{5, 2}, {3, 1}}, true},
		{"no teams", five, nil, true},
		{"no teams, empty", five, [][]int{}, true},
		{"no teams of one member", five[:1], nil, true},
		{"no teams, all ill", sick, nil, true},
		{"some in no team", five, [][]int{{2, 5}}, true},
		{"an empty team", five, [][]int{{}}, false},
		{"a nil team", five, [][]int{nil}, false},
		{"an empty team behind another one", five, [][]int{{1, 2}, {}}, false},
		{"a team of one", five, [][]int{{1}}, false},
		{"a team of one behind another one", five, [][]int{{1, 2}, {3}}, false},
		{"a team of one before another one", five, [][]int{{3}, {1, 2}}, false},
		{"a team of four", five, [][]int{{1, 2, 3, 5}}, false},
		{"a team of five", strong, [][]int{{1, 2, 3, 4, 96}}, false},
		{"an Id of nobody", five, [][]int{{1, 9}}, false},
		{"an Id of nobody at first", five, [][]int{{9, 1}}, false},
		{"an Id of nobody behind others", five, [][]int{{1, 2}, {3, 5, 9}}, false},
		{"no Id", five, [][]int{{1, 0}}, false},
		{"a negative Id", five, [][]int{{1, -2}}, false},
		{"the greatest int", five, [][]int{{1, math.MaxInt}}, false},
		{"the least int", five, [][]int{{math.MinInt, 1}}, false},
		{"a place and no Id", trio, [][]int{{1, 2}}, false},
		{"one who is ill", five, [][]int{{1, 4}}, false},
		{"one who is ill behind others", five, [][]int{{1, 2}, {3, 5, 4}}, false},
		{"an Id in two teams", five, [][]int{{1, 2}, {2, 3}}, false},
		{"an Id in two teams, not one after the other", strong, [][]int{{1, 2}, {3, 4}, {96, 1}}, false},
		{"an Id twice in a team", five, [][]int{{1, 1}}, false},
		{"an Id twice in a team of three", five, [][]int{{1, 2, 1}}, false},
		{"a team twice", five, [][]int{{1, 2}, {1, 2}}, false},
		{"nobody", nil, nil, false},
		{"nobody, no teams", []impl.Member{}, [][]int{}, false},
		{"nobody, a team", nil, [][]int{{1, 2}}, false},
	}
	for _, c := range cases {
		checkRoped(t, c.name, c.l, c.teams, c.want)
	}
}

func TestAreRopedOfStrewnTeams(t *testing.T) {
	throw := dice()
	roped, notRoped := 0, 0
	for l := range everyIllness() {
		for range 60 {
			ids := idsOf(l)
			if throw(3) > 0 && len(healthyOf(l)) > 0 {
				ids = idsOf(healthyOf(l))
			}
			teams := [][]int{}
			for range throw(4) {
				team := []int{}
				for range min(2+throw(2), 1+throw(9)) {
					place := throw(len(ids))
					team = append(team, ids[place])
					if len(ids) > 1 && throw(8) > 0 {
						ids = slices.Delete(slices.Clone(ids), place, place+1)
					}
				}
				teams = append(teams, team)
			}
			want := areRopedOf(l, teams)
			checkRoped(t, "strewn", l, teams, want)
			if want && len(teams) > 0 {
				roped++
			} else if !want {
				notRoped++
			}
		}
	}
	if roped < 2000 || notRoped < 2000 {
		t.Errorf("%d are roped, and %d are not", roped, notRoped)
	}
}

func TestBadCrewsAreNotRoped(t *testing.T) {
	for _, l := range badCrews() {
		if got := impl.RopeTeams(l); len(got) != 0 {
			t.Errorf("RopeTeams(%v) are %v", l, got)
		}
		if impl.CanRope(l) {
			t.Errorf("CanRope(%v) is true", l)
		}
		checkRoped(t, "no teams", l, nil, false)
		for _, a := range l {
			for _, b := range l {
				checkRoped(t, "two of a bad crew", l, [][]int{{a.Id, b.Id}}, false)
			}
		}
	}
}

func TestIceOn(t *testing.T) {
	cases := []struct {
		name string
		x    impl.Land
		way  []int
		want int
	}{
		{"over ice", camp, []int{3, 8, 13, 12}, 2},
		{"not over ice", camp, []int{0, 1, 2}, 0},
		{"one cell, not ice", camp, []int{0}, 0},
		{"one cell of ice", camp, []int{8}, 1},
		{"over ice alone", camp, []int{8, 13}, 2},
		{"over ice alone, there and back", camp, []int{8, 13, 8}, 3},
		{"over ice twice", camp, []int{3, 8, 3, 8, 9}, 2},
		{"to ice", camp, []int{2, 3, 8}, 1},
		{"from ice", camp, []int{13, 18}, 1},
		{"no cells", camp, nil, 0},
		{"no cells, empty", camp, []int{}, 0},
		{"cells that are not near one another", camp, []int{8, 14}, 0},
		{"cells that are not near one another at the end", camp, []int{3, 8, 13, 19}, 0},
		{"a cell twice, one after the other", camp, []int{8, 8}, 0},
		{"over a rock", camp, []int{8, 7}, 0},
		{"from a rock", camp, []int{7, 8}, 0},
		{"no cell at the end", camp, []int{8, 13, 20}, 0},
		{"no cell at the beginning", camp, []int{-1, 8}, 0},
		{"the greatest int", camp, []int{8, math.MaxInt}, 0},
		{"the least int", camp, []int{8, math.MinInt}, 0},
		{"a single cell", landOf("i"), []int{0}, 1},
		{"a single rock", landOf("#"), []int{0}, 0},
		{"no land", impl.Land{}, []int{0}, 0},
		{"no land, no cells", impl.Land{}, nil, 0},
	}
	for _, c := range cases {
		if got := impl.IceOn(c.x, c.way); got != c.want {
			t.Errorf("%s: IceOn(%s, %v) is %d, not %d", c.name, drawingOf(c.x), c.way, got, c.want)
		}
	}
	for _, x := range badLands() {
		for _, way := range [][]int{nil, {0}, {0, 1}, {1, 2}, {-1}} {
			if got := impl.IceOn(x, way); got != 0 {
				t.Errorf("IceOn(%.80v, %v) is %d", x, way, got)
			}
		}
	}
}

func TestIceOnStrewnWays(t *testing.T) {
	throw := dice()
	for x := range everyLand() {
		at := throw(len(x.Cells))
		way := []int{}
		for range throw(12) {
			way = append(way, at)
			next := besideOf(x, at)
			if len(next) == 0 {
				break
			}
			at = next[throw(len(next))]
		}
		if throw(8) == 0 {
			way = append(way, throw(len(x.Cells)+2)-1)
		}
		want := 0
		if isWayOf(x, way) {
			for _, n := range way {
				if x.Cells[n] == impl.LdIce {
					want++
				}
			}
		}
		if got := impl.IceOn(x, way); got != want {
			t.Errorf("IceOn(%s, %v) is %d, not %d", drawingOf(x), way, got, want)
		}
	}
}

// leaderOf is LeaderOf, told by the members of the team, in its order.
func leaderOf(l []impl.Member, team []int) int {
	members := []impl.Member{}
	for _, id := range team {
		if place := slices.Index(idsOf(l), id); place >= 0 {
			members = append(members, l[place])
		}
	}
	if len(members) == 0 {
		return 0
	}
	return slices.MaxFunc(members, func(a impl.Member, b impl.Member) int { return a.Strength - b.Strength }).Id
}

func TestLeaderOf(t *testing.T) {
	five := []impl.Member{well(1, 1, 1), well(2, 2, 1), well(3, 0, 1), ill(4, 9, 1), well(5, 2, 1)}
	cases := []struct {
		name string
		l    []impl.Member
		team []int
		want int
	}{
		{"the strongest", five, []int{1, 2, 3}, 2},
		{"the strongest at first", five, []int{2, 1, 3}, 2},
		{"the strongest at the end", five, []int{3, 1, 2}, 2},
		{"of several, the first one in the team", five, []int{5, 2}, 5},
		{"of several, the first one in the team, the other way round", five, []int{2, 5}, 2},
		{"of several behind another one", five, []int{3, 5, 2}, 5},
		{"one who is ill", five, []int{1, 4}, 4},
		{"one who can carry nothing", five, []int{3}, 3},
		{"all can carry nothing", weak, []int{9, 5}, 9},
		{"a team of one", five, []int{1}, 1},
		{"a team of many", five, []int{3, 1, 5, 2, 4}, 4},
		{"an Id several times", five, []int{1, 1, 1}, 1},
		{"nobody", five, nil, 0},
		{"nobody, empty", five, []int{}, 0},
		{"an Id of nobody", five, []int{9}, 0},
		{"an Id of nobody and others", five, []int{9, 1, 0, 3}, 1},
		{"the greatest and the least int", five, []int{math.MaxInt, 3, math.MinInt}, 3},
		{"of no crew", nil, []int{1, 2}, 0},
		{"of no crew, nobody", nil, nil, 0},
		{"an Id that two have stands for the first", []impl.Member{well(1, 5, 1), well(2, 7, 1), well(1, 9, 1)}, []int{1, 2}, 2},
		{"an Id that two have stands for the first, who is stronger", []impl.Member{well(1, 9, 1), well(2, 7, 1), well(1, 5, 1)}, []int{2, 1}, 1},
		{"a crew that is not in order", []impl.Member{well(9, 3, 1), well(2, 7, 1), well(5, 8, 1)}, []int{9, 2}, 2},
		{"a crew of too many", append(slices.Clone(strong), well(50, 101, 1)), []int{1, 50}, 50},
		{"Strengths below 0", []impl.Member{well(1, -5, 1), well(2, -3, 1)}, []int{1, 2}, 2},
		{"the greatest and the least Strength", []impl.Member{well(1, math.MinInt, 1), well(2, math.MaxInt, 1)}, []int{1, 2}, 2},
		{"the least Strength alone", []impl.Member{well(1, math.MinInt, 1)}, []int{1}, 1},
		{"a negative Id", []impl.Member{well(-4, 5, 1), well(2, 3, 1)}, []int{2, -4}, -4},
		{"an Id of 0", []impl.Member{well(0, 5, 1), well(2, 3, 1)}, []int{2, 0}, 0},
		{"an Id of 0 that is weaker", []impl.Member{well(0, 5, 1), well(2, 8, 1)}, []int{0, 2}, 2},
		{"an Id of 0 that nobody has", five, []int{0, 3}, 3},
	}
	for _, c := range cases {
		if got := impl.LeaderOf(c.l, c.team); got != c.want {
			t.Errorf("%s: LeaderOf(%v, %v) is %d, not %d", c.name, c.l, c.team, got, c.want)
		}
	}
}

func TestLeadersOfStrewnTeams(t *testing.T) {
	throw := dice()
	for _, l := range append(goodCrews(), badCrews()[5:14]...) {
		for range 40 {
			team := []int{}
			for range throw(5) {
				team = append(team, l[throw(len(l))].Id+throw(8)/7)
			}
			if got, want := impl.LeaderOf(l, team), leaderOf(l, team); got != want {
				t.Errorf("LeaderOf(%v, %v) is %d, not %d", l, team, got, want)
			}
		}
	}
}

func TestTeamsShareNoMemory(t *testing.T) {
	for _, l := range append(badCrews()[:14], namedCrews...) {
		g := guard(l...)
		first, second := impl.RopeTeams(g.list), impl.RopeTeams(g.list)
		for i := range first {
			want := slices.Clone(second[i])
			scribble(first[i])
			for k := i + 1; k < len(first); k++ {
				if !slices.Equal(first[k], second[k]) {
					t.Errorf("of the teams of %v, %d and %d share memory", l, i, k)
				}
			}
			if !slices.Equal(second[i], want) {
				t.Errorf("two results of RopeTeams(%v) share memory", l)
			}
		}
		g.check(t, "RopeTeams")
	}
}

func TestRopesKeepTheirArguments(t *testing.T) {
	cells, way := guard(camp.Cells...), guard(3, 8, 13, 12)
	impl.IceOn(impl.Land{W: camp.W, H: camp.H, Cells: cells.list}, way.list)
	cells.check(t, "IceOn")
	way.check(t, "IceOn")
	for _, l := range append(badCrews()[:14], namedCrews...) {
		crew, one, two := guard(l...), guard(1, 2), guard(7, 6, 3)
		teams := [][]int{one.list, two.list, {1}}
		for _, given := range [][][]int{teams, teams[:2], teams[:1], teams[:0]} {
			impl.AreRoped(crew.list, given)
			if len(teams[0]) != 2 || len(teams[1]) != 3 || !slices.Equal(teams[2], []int{1}) {
				t.Errorf("AreRoped changed the teams to %v", teams)
			}
		}
		impl.CanRope(crew.list)
		impl.LeaderOf(crew.list, two.list)
		crew.check(t, "AreRoped, CanRope and LeaderOf")
		one.check(t, "AreRoped")
		two.check(t, "AreRoped and LeaderOf")
	}
}
