package tests

import (
	"math"
	"slices"
	"testing"

	"loop.example/g03008/impl"
)

// healthyOf are those that are not ill.
func healthyOf(l []impl.Member) []impl.Member {
	return slices.DeleteFunc(slices.Clone(l), func(m impl.Member) bool { return m.Ill })
}

func idsOf(l []impl.Member) []int {
	ids := []int{}
	for _, m := range l {
		ids = append(ids, m.Id)
	}
	return ids
}

// strongestOf is Strongest, told by holding each against all the others.
func strongestOf(l []impl.Member) int {
	healthy := healthyOf(l)
	for i, m := range healthy {
		isStronger := func(other impl.Member) bool { return other.Strength > m.Strength }
		isAsStrong := func(other impl.Member) bool { return other.Strength >= m.Strength }
		if !slices.ContainsFunc(healthy, isStronger) && !slices.ContainsFunc(healthy[:i], isAsStrong) {
			return m.Id
		}
	}
	return 0
}

func TestMaxCrew(t *testing.T) {
	if impl.MaxCrew != 8 {
		t.Errorf("MaxCrew is %d", impl.MaxCrew)
	}
}

func TestAreCrew(t *testing.T) {
	for _, l := range goodCrews() {
		if !impl.AreCrew(l) {
			t.Errorf("%v are a crew", l)
		}
	}
	for _, l := range badCrews() {
		if impl.AreCrew(l) {
			t.Errorf("%v are no crew", l)
		}
	}
}

func TestAreCrewOfEachNumber(t *testing.T) {
	for n := -5; n <= 120; n++ {
		for i := range 3 {
			l := []impl.Member{well(2, 5, 5), ill(50, 5, 5), well(98, 5, 5)}
			l[i].Strength = n
			if got := impl.AreCrew(l); got != (0 <= n && n <= 100) {
				t.Errorf("AreCrew(%v) is %v", l, got)
			}
			l[i].Strength, l[i].Need = 5, n
			if got := impl.AreCrew(l); got != (1 <= n && n <= 10) {
				t.Errorf("AreCrew(%v) is %v", l, got)
			}
			l[i].Need, l[i].Id = 5, n
			if got := impl.AreCrew(l); got != (1 <= l[0].Id && l[0].Id < l[1].Id && l[1].Id < l[2].Id && l[2].Id <= 99) {
				t.Errorf("AreCrew(%v) is %v", l, got)
			}
		}
		if got := impl.AreCrew([]impl.Member{well(n, 0, 1)}); got != (1 <= n && n <= 99) {
			t.Errorf("AreCrew of one with the Id %d is %v", n, got)
		}
	}
}

func TestAreCrewOfEachSize(t *testing.T) {
	for size := range 40 {
		l := []impl.Member{}
		for id := range size {
			l = append(l, impl.Member{Id: id + 1, Need: 1, Ill: id%2 == 0})
		}
		// Spare capacity does not count.
		for _, list := range [][]impl.Member{l, slices.Clip(l), slices.Grow(l, 20)} {
			if got := impl.AreCrew(list); got != (1 <= size && size <= 8) {
				t.Errorf("AreCrew of %d is %v", size, got)
			}
		}
	}
}

func TestNeedAndCap(t *testing.T) {
	cases := []struct {
		name      string
		l         []impl.Member
		need, cap int
	}{
		{"all well", pair, 3, 32},
		{"one ill", trio, 6, 40},
		{"two ill", full, 28, 205},
		{"all weak", weak, 10, 0},
		{"all ill", sick, 16, 0},
		{"as many and as much as may be", strong, 80, 800},
		{"one, as little as may be", []impl.Member{well(1, 0, 1)}, 1, 0},
		{"one, as much as may be", []impl.Member{well(99, 100, 10)}, 10, 100},
		{"one, ill", []impl.Member{ill(99, 100, 10)}, 10, 0},
		{"none", nil, 0, 0},
		{"nine", append(slices.Clone(full), well(100, 5, 5)), 0, 0},
		{"a Strength too many", []impl.Member{well(1, 20, 2), well(2, 101, 1)}, 0, 0},
		{"a Need too few", []impl.Member{well(1, 20, 2), well(2, 20, 0)}, 0, 0},
		{"an Id twice", []impl.Member{well(1, 20, 2), well(1, 20, 2)}, 0, 0},
	}
	for _, c := range cases {
		if got := impl.NeedOf(c.l); got != c.need {
			t.Errorf("%s: NeedOf(%v) is %d, not %d", c.name, c.l, got, c.need)
		}
		if got := impl.CapOf(c.l); got != c.cap {
			t.Errorf("%s: CapOf(%v) is %d, not %d", c.name, c.l, got, c.cap)
		}
	}
}

func TestNeedAndCapAreSums(t *testing.T) {
	for _, l := range goodCrews() {
		if got, want := impl.NeedOf(l), needOf(l); got != want {
			t.Errorf("NeedOf(%v) is %d, not %d", l, got, want)
		}
		if got, want := impl.CapOf(l), capOf(l); got != want {
			t.Errorf("CapOf(%v) is %d, not %d", l, got, want)
		}
	}
	for _, l := range badCrews() {
		if need, load := impl.NeedOf(l), impl.CapOf(l); need != 0 || load != 0 {
			t.Errorf("NeedOf(%v) is %d, and CapOf %d", l, need, load)
		}
	}
}

func TestTheIllEatButDoNotCarry(t *testing.T) {
	for _, crew := range [][]impl.Member{full, strong, weak, trio, {well(7, 30, 3)}} {
		for whoIsIll := range 1 << len(crew) {
			l := slices.Clone(crew)
			load := 0
			for i := range l {
				l[i].Ill = whoIsIll>>i&1 == 1
				if !l[i].Ill {
					load += l[i].Strength
				}
			}
			if got, want := impl.NeedOf(l), needOf(crew); got != want {
				t.Errorf("NeedOf(%v) is %d, not %d", l, got, want)
			}
			if got := impl.CapOf(l); got != load {
				t.Errorf("CapOf(%v) is %d, not %d", l, got, load)
			}
			if got, want := impl.Healthy(l), idsOf(healthyOf(l)); !slices.Equal(got, want) {
				t.Errorf("Healthy(%v) is %v, not %v", l, got, want)
			}
			if got, want := impl.Strongest(l), strongestOf(l); got != want {
				t.Errorf("Strongest(%v) is %d, not %d", l, got, want)
			}
		}
	}
}

func TestWhoFallsIllCarriesNoMore(t *testing.T) {
	for _, l := range goodCrews() {
		for _, m := range l {
			down, _ := impl.SetIll(l, m.Id, true)
			up, _ := impl.SetIll(down, m.Id, false)
			if impl.NeedOf(down) != impl.NeedOf(l) || impl.NeedOf(up) != impl.NeedOf(l) {
				t.Errorf("%v need as much as before when %d falls ill and gets well", l, m.Id)
			}
			if got := impl.CapOf(up) - impl.CapOf(down); got != m.Strength {
				t.Errorf("%d of %v carries %d less when ill, not %d", m.Id, l, got, m.Strength)
			}
			if slices.Contains(impl.Healthy(down), m.Id) || !slices.Contains(impl.Healthy(up), m.Id) {
				t.Errorf("%d of %v is healthy when ill, or not when well", m.Id, l)
			}
			if impl.Strongest(down) == m.Id {
				t.Errorf("%d of %v is the strongest when ill", m.Id, l)
			}
		}
	}
}

func TestSetIll(t *testing.T) {
	cases := []struct {
		name string
		l    []impl.Member
		id   int
		ill  bool
		want []impl.Member
		ok   bool
	}{
		{"the first falls ill", pair, 1, true, []impl.Member{ill(1, 20, 2), well(2, 12, 1)}, true},
		{"the last falls ill", pair, 2, true, []impl.Member{well(1, 20, 2), ill(2, 12, 1)}, true},
		{"one amid gets well", trio, 4, false, []impl.Member{well(1, 20, 2), well(4, 25, 3), well(6, 20, 1)}, true},
		{"one is ill already", trio, 4, true, trio, true},
		{"one is well already", trio, 6, false, trio, true},
		{"the only one falls ill", []impl.Member{well(99, 1, 1)}, 99, true, []impl.Member{ill(99, 1, 1)}, true},
		{"the only one gets well", []impl.Member{ill(1, 1, 1)}, 1, false, []impl.Member{well(1, 1, 1)}, true},
		{"all but one were ill", []impl.Member{ill(1, 5, 1), well(2, 5, 1), ill(3, 5, 1)}, 2, true, []impl.Member{ill(1, 5, 1), ill(2, 5, 1), ill(3, 5, 1)}, true},
		{"nobody, before the first", trio, 0, true, trio, false},
		{"nobody, between", trio, 2, true, trio, false},
		{"nobody, a place and no Id", trio, 3, true, trio, false},
		{"nobody, behind the last", trio, 7, false, trio, false},
		{"nobody, as there are none", nil, 1, true, nil, false},
		{"two with this Id", []impl.Member{well(1, 5, 1), well(1, 5, 1)}, 1, true, []impl.Member{well(1, 5, 1), well(1, 5, 1)}, false},
		{"not in order", []impl.Member{well(2, 5, 1), well(1, 5, 1)}, 1, true, []impl.Member{well(2, 5, 1), well(1, 5, 1)}, false},
		{"another one eats nothing", []impl.Member{well(1, 5, 1), well(2, 5, 0)}, 1, true, []impl.Member{well(1, 5, 1), well(2, 5, 0)}, false},
		{"an Id of 0", []impl.Member{well(0, 5, 1)}, 0, true, []impl.Member{well(0, 5, 1)}, false},
	}
	for _, c := range cases {
		if got, ok := impl.SetIll(c.l, c.id, c.ill); ok != c.ok || !slices.Equal(got, c.want) {
			t.Errorf("%s: SetIll(%v, %d, %v) is %v and %v", c.name, c.l, c.id, c.ill, got, ok)
		}
	}
}

func TestSetIllOfEachMember(t *testing.T) {
	for _, l := range goodCrews() {
		for _, sick := range []bool{false, true} {
			for id := -3; id <= 110; id++ {
				want := slices.Clone(l)
				place := slices.Index(idsOf(l), id)
				if place >= 0 {
					want[place].Ill = sick
				}
				if got, ok := impl.SetIll(l, id, sick); ok != (place >= 0) || !slices.Equal(got, want) {
					t.Errorf("SetIll(%v, %d, %v) is %v and %v", l, id, sick, got, ok)
				}
			}
		}
	}
}

func TestSetIllOfNobody(t *testing.T) {
	for _, l := range append(badCrews(), trio, full) {
		ids := []int{0, -1, 5, 100, 101, 1 << 32, math.MaxInt, math.MinInt}
		if !impl.AreCrew(l) {
			ids = append(ids, idsOf(l)...)
		}
		for _, id := range ids {
			for _, sick := range []bool{false, true} {
				if got, ok := impl.SetIll(l, id, sick); ok || !slices.Equal(got, l) {
					t.Errorf("SetIll(%v, %d, %v) is %v and %v", l, id, sick, got, ok)
				}
			}
		}
	}
}

func TestHealthyAndStrongest(t *testing.T) {
	cases := []struct {
		name      string
		l         []impl.Member
		healthy   []int
		strongest int
	}{
		{"all well", pair, []int{1, 2}, 1},
		{"the strongest one ill, the first of several", trio, []int{1, 6}, 1},
		{"the strongest one ill, the first of several later on", full, []int{3, 7, 20, 21, 98, 99}, 7},
		{"the last one the strongest", []impl.Member{well(1, 3, 1), well(2, 2, 1), well(3, 4, 1)}, []int{1, 2, 3}, 3},
		{"one amid the strongest", []impl.Member{well(1, 3, 1), well(2, 5, 1), well(3, 4, 1)}, []int{1, 2, 3}, 2},
		{"a stronger one ill before, and one behind", []impl.Member{ill(1, 9, 1), well(2, 5, 1), ill(3, 8, 1)}, []int{2}, 2},
		{"all equally strong", strong, []int{1, 2, 3, 4, 96, 97, 98, 99}, 1},
		{"all weak", weak, []int{5, 9}, 5},
		{"only weak ones well", []impl.Member{ill(1, 50, 1), well(4, 0, 1), well(6, 0, 1)}, []int{4, 6}, 4},
		{"all ill", sick, nil, 0},
		{"none", nil, nil, 0},
		{"one", []impl.Member{well(99, 0, 1)}, []int{99}, 99},
		{"Ids that descend", []impl.Member{well(9, 5, 1), ill(7, 9, 1), well(2, 5, 1)}, []int{9, 2}, 9},
		{"an Id twice", []impl.Member{well(3, 5, 1), ill(3, 9, 1), well(3, 6, 1)}, []int{3, 3}, 3},
		{"Ids below 1", []impl.Member{well(-5, 1, 1), well(0, 2, 1), well(-7, 3, 1)}, []int{-5, 0, -7}, -7},
		{"an Id of 0 the strongest", []impl.Member{well(-5, 1, 1), well(0, 2, 1)}, []int{-5, 0}, 0},
		{"an Id of 0 not the strongest", []impl.Member{well(0, 1, 1), well(-5, 2, 1), well(8, 2, 1)}, []int{0, -5, 8}, -5},
		{"an Id of 0 the first of several", []impl.Member{well(0, 2, 1), well(5, 2, 1)}, []int{0, 5}, 0},
		{"Ids beyond 99", []impl.Member{well(100, 1, 1), well(math.MaxInt, 2, 1)}, []int{100, math.MaxInt}, math.MaxInt},
		{"Strengths below 0", []impl.Member{well(1, -9, 1), well(2, -3, 1), ill(3, 0, 1), well(4, -3, 1)}, []int{1, 2, 4}, 2},
		{"the least int of a Strength", []impl.Member{ill(1, 0, 1), well(2, math.MinInt, 1)}, []int{2}, 2},
		{"the least int of a Strength, of several", []impl.Member{well(7, math.MinInt, 1), well(2, math.MinInt, 1), well(3, math.MinInt+1, 1)}, []int{7, 2, 3}, 3},
		{"the greatest int of a Strength", []impl.Member{well(1, 100, 1), well(2, math.MaxInt, 1), well(3, math.MinInt, 1)}, []int{1, 2, 3}, 2},
		{"who eats nothing", []impl.Member{well(1, 5, 0), well(2, 6, -4), well(3, 4, 99)}, []int{1, 2, 3}, 2},
	}
	for _, c := range cases {
		if got := impl.Healthy(c.l); !slices.Equal(got, c.healthy) {
			t.Errorf("%s: Healthy(%v) is %v, not %v", c.name, c.l, got, c.healthy)
		}
		if got := impl.Strongest(c.l); got != c.strongest {
			t.Errorf("%s: Strongest(%v) is %d, not %d", c.name, c.l, got, c.strongest)
		}
	}
}

func TestHealthyAndStrongestOfAnyMembers(t *testing.T) {
	lists := append(goodCrews(), badCrews()...)
	throw := dice()
	for size := range 30 {
		list := []impl.Member{}
		for range size {
			list = append(list, impl.Member{Id: throw(300) - 100, Strength: throw(6) - 3, Need: throw(9) - 4, Ill: throw(2) == 0})
		}
		lists = append(lists, list)
	}
	for _, l := range lists {
		if got, want := impl.Healthy(l), idsOf(healthyOf(l)); !slices.Equal(got, want) {
			t.Errorf("Healthy(%v) is %v, not %v", l, got, want)
		}
		if got, want := impl.Strongest(l), strongestOf(l); got != want {
			t.Errorf("Strongest(%v) is %d, not %d", l, got, want)
		}
	}
}

func TestCrewsStayAsTheyWere(t *testing.T) {
	for _, members := range append(badCrews(), namedCrews...) {
		l := guard(members...)
		for _, id := range append(idsOf(members), 0, 100, math.MaxInt) {
			for _, sick := range []bool{false, true} {
				checkOwnMemory(t, "SetIll", l, func() []impl.Member {
					crew, _ := impl.SetIll(l.list, id, sick)
					return crew
				})
			}
		}
		checkOwnMemory(t, "Healthy", l, func() []int { return impl.Healthy(l.list) })
		impl.AreCrew(l.list)
		impl.NeedOf(l.list)
		impl.CapOf(l.list)
		impl.Strongest(l.list)
		l.check(t, "the functions of crews")
	}
}

func TestCrewsKeepNoState(t *testing.T) {
	l := slices.Clone(trio)
	first, _ := impl.SetIll(l, 4, false)
	l[0].Id, l[1].Id, l[1].Strength = 2, 5, 90
	second, ok := impl.SetIll(l, 4, false)
	third, _ := impl.SetIll(l, 5, false)
	if impl.CapOf(first) != 65 || ok || impl.CapOf(second) != 40 || impl.CapOf(third) != 130 || impl.CapOf(l) != 40 {
		t.Errorf("while the crew changes, SetIll gives %v, %v and %v", first, second, third)
	}
}
