package tests

import (
	"iter"
	"math"
	"slices"
	"testing"

	"loop.example/g03008/impl"
)

// tentOf is a tent with some in it.
func tentOf(id int, beds int, who ...int) impl.Tent {
	return impl.Tent{Id: id, Beds: beds, Who: who}
}

// The tents that the tests have.
var (
	// threeTents have room for six, and are empty.
	threeTents = []impl.Tent{tentOf(2, 1), tentOf(4, 2), tentOf(5, 3)}
	// someIn has beds that are free in the second and in the third tent.
	someIn = []impl.Tent{tentOf(2, 1, 8), tentOf(4, 2, 3), tentOf(5, 3, 7, 1), tentOf(9, 2, 6, 2)}
	allIn  = []impl.Tent{tentOf(1, 2, 1, 2), tentOf(99, 3, 5, 4, 3)}
	// oddIn has no members in it: who is in a tent is not asked for.
	oddIn = []impl.Tent{tentOf(3, 6, 0, -1, math.MaxInt), tentOf(7, 4, math.MinInt, 100)}
	great = manyTents(8, 6)
)

var namedTents = [][]impl.Tent{nil, {}, threeTents, someIn, allIn, oddIn, great, fullTents(8, 6), {tentOf(1, 1)}, {tentOf(99, 6)}, {tentOf(1, 1, 5)}}

// manyTents are so many empty ones.
func manyTents(count int, beds int) []impl.Tent {
	l := []impl.Tent{}
	for i := range count {
		l = append(l, tentOf(1+14*i, beds))
	}
	return l
}

// fullTents are so many with somebody in each bed.
func fullTents(count int, beds int) []impl.Tent {
	l, who := manyTents(count, beds), 0
	for i := range l {
		for range beds {
			who++
			l[i].Who = append(l[i].Who, who)
		}
	}
	return l
}

// tentsLike is a copy that shares no memory.
func tentsLike(l []impl.Tent) []impl.Tent {
	tents := slices.Clone(l)
	for i := range tents {
		tents[i].Who = slices.Clone(l[i].Who)
	}
	return tents
}

func sameTents(a []impl.Tent, b []impl.Tent) bool {
	return slices.EqualFunc(a, b, func(s impl.Tent, t impl.Tent) bool {
		return s.Id == t.Id && s.Beds == t.Beds && slices.Equal(s.Who, t.Who)
	})
}

// everybodyIn is who is in the tents, in order.
func everybodyIn(l []impl.Tent) []int {
	who := []int{}
	for _, t := range l {
		who = append(who, t.Who...)
	}
	return who
}

// areTentsOf is AreTents.
func areTentsOf(l []impl.Tent) bool {
	for i, t := range l {
		if t.Id < 1 || t.Id > 99 || i > 0 && t.Id <= l[i-1].Id || t.Beds < 1 || t.Beds > 6 || len(t.Who) > t.Beds {
			return false
		}
	}
	who := everybodyIn(l)
	slices.Sort(who)
	return len(l) <= 8 && len(slices.Compact(slices.Clone(who))) == len(who)
}

// bedsOf is how many beds there are.
func bedsOf(l []impl.Tent) int {
	beds := 0
	for _, t := range l {
		beds += t.Beds
	}
	return beds
}

// putUpOf is PutUp of valid tents and a valid crew: each tent takes as many as
// it has beds.
func putUpOf(l []impl.Tent, crew []impl.Member) ([]impl.Tent, bool) {
	if bedsOf(l) < len(crew) {
		return l, false
	}
	tents, left := []impl.Tent{}, idsOf(crew)
	for _, t := range l {
		in := min(t.Beds, len(left))
		tents = append(tents, tentOf(t.Id, t.Beds, left[:in]...))
		left = left[in:]
	}
	return tents, true
}

// moveToOf is MoveTo.
func moveToOf(l []impl.Tent, who int, tent int) ([]impl.Tent, bool) {
	if !areTentsOf(l) || !slices.Contains(everybodyIn(l), who) {
		return l, false
	}
	moved, tents := false, tentsLike(l)
	for i, t := range l {
		if t.Id == tent && len(t.Who) < t.Beds && !slices.Contains(t.Who, who) {
			moved = true
			tents[i].Who = append(tents[i].Who, who)
		} else {
			tents[i].Who = slices.DeleteFunc(tents[i].Who, func(other int) bool { return other == who })
		}
	}
	if !moved {
		return l, false
	}
	return tents, true
}

// badTents are not valid, most of them for one reason.
func badTents() [][]impl.Tent {
	lists := [][]impl.Tent{
		make([]impl.Tent, 1),
		make([]impl.Tent, 8),
		make([]impl.Tent, 9),
		manyTents(9, 1),
		append(manyTents(7, 6), tentOf(98, 1), tentOf(99, 1)),
		make([]impl.Tent, 5000),
		{tentOf(4, 2), tentOf(4, 2)},
		{tentOf(4, 2), tentOf(3, 2)},
		{tentOf(1, 2), tentOf(3, 2), tentOf(2, 2)},
		{tentOf(1, 2), tentOf(3, 2), tentOf(1, 2)},
		{tentOf(1, 1, 1, 2)},
		{tentOf(1, 6, 1, 2, 3, 4, 5, 6, 7)},
		{tentOf(1, 2), tentOf(3, 2, 1, 2, 3)},
		{tentOf(1, 2, 1, 2, 3), tentOf(3, 2)},
		{tentOf(1, 2, 1, 1)},
		{tentOf(1, 2, 0, 0)},
		{tentOf(1, 3, 1, 2, 1)},
		{tentOf(1, 3, 3, 2, 2)},
		{tentOf(1, 2, 1), tentOf(2, 2, 1)},
		{tentOf(1, 2, 3, 1), tentOf(2, 2), tentOf(3, 2, 2, 1)},
		{tentOf(1, 2, 3, 0), tentOf(2, 2), tentOf(3, 2, 0)},
		{tentOf(1, 2, math.MinInt), tentOf(2, 2, math.MinInt)},
		{{Id: 1, Beds: 2, Who: make([]int, 3000)}},
	}
	for _, good := range [][]impl.Tent{threeTents, someIn, {tentOf(50, 3, 1)}} {
		for i := range good {
			for _, spoil := range []func(t *impl.Tent){
				func(t *impl.Tent) { t.Id = 0 },
				func(t *impl.Tent) { t.Id = -1 },
				func(t *impl.Tent) { t.Id = 100 },
				func(t *impl.Tent) { t.Id = math.MaxInt },
				func(t *impl.Tent) { t.Id = math.MinInt },
				func(t *impl.Tent) { t.Beds = 0 },
				func(t *impl.Tent) { t.Beds = -1 },
				func(t *impl.Tent) { t.Beds = 7 },
				func(t *impl.Tent) { t.Beds = math.MaxInt },
				func(t *impl.Tent) { t.Beds = math.MinInt },
			} {
				l := tentsLike(good)
				spoil(&l[i])
				lists = append(lists, l)
			}
		}
	}
	return lists
}

// fewTents are all lists of two tents of one or two beds with up to two of three
// members in each, valid and not.
func fewTents() iter.Seq[[]impl.Tent] {
	lists := [][]int{{}}
	for a := 1; a <= 3; a++ {
		lists = append(lists, []int{a})
		for b := 1; b <= 3; b++ {
			lists = append(lists, []int{a, b})
		}
	}
	return func(yield func([]impl.Tent) bool) {
		for beds := range 4 {
			for _, one := range lists {
				for _, two := range lists {
					if !yield([]impl.Tent{tentOf(2, 1+beds%2, one...), tentOf(3, 1+beds/2, two...)}) {
						return
					}
				}
			}
		}
	}
}

// strewnTents are valid ones, with some of the members in them.
func strewnTents(throw func(sides int) int, members []int) []impl.Tent {
	l, id := []impl.Tent{}, 0
	left := slices.Clone(members)
	for range throw(9) {
		id += 1 + throw(12)
		t := tentOf(id, 1+throw(6))
		for len(left) > 0 && len(t.Who) < t.Beds && throw(4) > 0 {
			place := throw(len(left))
			t.Who = append(t.Who, left[place])
			left = slices.Delete(left, place, place+1)
		}
		l = append(l, t)
	}
	return l
}

// guardedTents are tents of guarded lists.
type guardedTents struct {
	list   []impl.Tent
	whole  []impl.Tent
	before []impl.Tent
	who    []guarded[int]
}

func guardTents(l []impl.Tent) guardedTents {
	whole := []impl.Tent{tentOf(201, 202, 203)}
	g := guardedTents{}
	for _, t := range l {
		who := guard(t.Who...)
		g.who = append(g.who, who)
		whole = append(whole, impl.Tent{Id: t.Id, Beds: t.Beds, Who: who.list})
	}
	g.whole = append(whole, tentOf(204, 205, 206), tentOf(207, 208), tentOf(209, 210, 211, 212))
	g.list = g.whole[1 : 1+len(l)]
	g.before = tentsLike(g.whole)
	return g
}

func (g guardedTents) check(t *testing.T, name string) {
	t.Helper()
	if !sameTents(g.whole, g.before) {
		t.Errorf("%s: the tents were %v and are %v", name, g.before, g.whole)
	}
	for _, who := range g.who {
		who.check(t, name)
	}
}

// checkOwnTents calls a function twice, as checkOwnMemory does for lists, and
// looks at each Who of what it returns.
func checkOwnTents(t *testing.T, name string, argument guardedTents, call func() []impl.Tent) {
	t.Helper()
	first, second := call(), call()
	want := tentsLike(second)
	for i := range first {
		others := tentsLike(first)
		scribble(first[i].Who)
		for k := range first {
			if k != i && !slices.Equal(first[k].Who, others[k].Who) {
				t.Errorf("%s: two Whos of a result share memory", name)
			}
		}
	}
	for i, all := 0, first[:cap(first)]; i < len(all); i++ {
		all[i] = tentOf(-1, -2, -3)
	}
	argument.check(t, name)
	if !sameTents(second, want) {
		t.Errorf("%s: two results share memory", name)
	}
}

func checkPutUp(t *testing.T, name string, l []impl.Tent, crew []impl.Member, want []impl.Tent, ok bool) {
	t.Helper()
	if got, gotOk := impl.PutUp(l, crew); gotOk != ok || !sameTents(got, want) {
		t.Errorf("%s: PutUp(%v, %v) is %v and %v, not %v and %v", name, l, crew, got, gotOk, want, ok)
	}
}

func checkMove(t *testing.T, name string, l []impl.Tent, who int, tent int, want []impl.Tent, ok bool) {
	t.Helper()
	if got, gotOk := impl.MoveTo(l, who, tent); gotOk != ok || !sameTents(got, want) {
		t.Errorf("%s: MoveTo(%v, %d, %d) is %v and %v, not %v and %v", name, l, who, tent, got, gotOk, want, ok)
	}
}

func TestAreTents(t *testing.T) {
	for _, l := range namedTents {
		if !impl.AreTents(l) {
			t.Errorf("AreTents(%v) is false", l)
		}
	}
	for _, l := range badTents() {
		if impl.AreTents(l) {
			t.Errorf("AreTents of %d tents, %v at first, is true", len(l), l[:min(len(l), 2)])
		}
	}
	for l := range fewTents() {
		if got := impl.AreTents(l); got != areTentsOf(l) {
			t.Errorf("AreTents(%v) is %v", l, got)
		}
	}
}

func TestAreTentsOfEachNumber(t *testing.T) {
	for n := -3; n <= 110; n++ {
		if got := impl.AreTents([]impl.Tent{tentOf(n, 3)}); got != (1 <= n && n <= 99) {
			t.Errorf("AreTents of an Id of %d is %v", n, got)
		}
		if got := impl.AreTents([]impl.Tent{tentOf(3, n)}); got != (1 <= n && n <= 6) {
			t.Errorf("AreTents of %d Beds is %v", n, got)
		}
	}
	for count := range 12 {
		l := []impl.Tent{}
		for id := range count {
			l = append(l, tentOf(1+id, 1))
		}
		if got := impl.AreTents(l); got != (count <= 8) {
			t.Errorf("AreTents of %d tents is %v", count, got)
		}
		for beds := 1; beds <= 6; beds++ {
			who := []int{}
			for i := range count {
				who = append(who, 50-i)
			}
			if got := impl.AreTents([]impl.Tent{tentOf(3, beds, who...)}); got != (count <= beds) {
				t.Errorf("AreTents of %d in %d beds is %v", count, beds, got)
			}
		}
	}
}

func TestPutUp(t *testing.T) {
	four := []impl.Member{well(1, 5, 1), ill(2, 5, 1), well(3, 5, 1), well(7, 5, 1)}
	for _, c := range []struct {
		name string
		l    []impl.Tent
		crew []impl.Member
		want []impl.Tent
		ok   bool
	}{
		{"into empty tents", threeTents, four, []impl.Tent{tentOf(2, 1, 1), tentOf(4, 2, 2, 3), tentOf(5, 3, 7)}, true},
		{"one member", threeTents, four[3:], []impl.Tent{tentOf(2, 1, 7), tentOf(4, 2), tentOf(5, 3)}, true},
		{"just as many beds as members", threeTents[1:], append(slices.Clone(four), well(9, 1, 1)), []impl.Tent{tentOf(4, 2, 1, 2), tentOf(5, 3, 3, 7, 9)}, true},
		{"one bed fewer", []impl.Tent{tentOf(2, 1), tentOf(4, 2)}, four, []impl.Tent{tentOf(2, 1), tentOf(4, 2)}, false},
		{"one bed fewer, in a tent", threeTents[2:], four, threeTents[2:], false},
		{"far fewer beds", threeTents[:1], strong, threeTents[:1], false},
		{"a bed for the only one", []impl.Tent{tentOf(9, 1)}, four[:1], []impl.Tent{tentOf(9, 1, 1)}, true},
		{"into tents in which others are", someIn, four, []impl.Tent{tentOf(2, 1, 1), tentOf(4, 2, 2, 3), tentOf(5, 3, 7), tentOf(9, 2)}, true},
		{"into tents that are full", allIn, four, []impl.Tent{tentOf(1, 2, 1, 2), tentOf(99, 3, 3, 7)}, true},
		{"into tents in which others are, too few beds", allIn, strong, allIn, false},
		{"into tents in which odd ones are", oddIn, four, []impl.Tent{tentOf(3, 6, 1, 2, 3, 7), tentOf(7, 4)}, true},
		{"a crew of eight", great, strong, append([]impl.Tent{tentOf(1, 6, 1, 2, 3, 4, 96, 97), tentOf(15, 6, 98, 99)}, great[2:]...), true},
		{"a crew of eight, each in a tent", manyTents(8, 1), full, []impl.Tent{tentOf(1, 1, 3), tentOf(15, 1, 7), tentOf(29, 1, 8), tentOf(43, 1, 20), tentOf(57, 1, 21), tentOf(71, 1, 50), tentOf(85, 1, 98), tentOf(99, 1, 99)}, true},
		{"a crew of eight, seven tents", manyTents(7, 1), full, manyTents(7, 1), false},
		{"all ill", threeTents, sick, []impl.Tent{tentOf(2, 1, 2), tentOf(4, 2, 30, 31), tentOf(5, 3)}, true},
		{"no tents", nil, four, nil, false},
		{"no tents, empty", []impl.Tent{}, four[:1], nil, false},
		{"no crew", threeTents, nil, threeTents, false},
		{"no crew, and others are in", someIn, []impl.Member{}, someIn, false},
		{"neither", nil, nil, nil, false},
		{"a crew that is not in order", someIn, []impl.Member{well(2, 5, 1), well(1, 5, 1)}, someIn, false},
		{"a crew of whom one eats nothing", someIn, []impl.Member{well(2, 5, 0)}, someIn, false},
		{"a tent with too many", []impl.Tent{tentOf(1, 1, 5, 6)}, four[:1], []impl.Tent{tentOf(1, 1, 5, 6)}, false},
		{"a tent without beds behind another one", []impl.Tent{tentOf(1, 6), tentOf(2, 0, 9)}, four, []impl.Tent{tentOf(1, 6), tentOf(2, 0, 9)}, false},
	} {
		checkPutUp(t, c.name, c.l, c.crew, c.want, c.ok)
	}
}

func TestTentOfAndBedsFree(t *testing.T) {
	for _, c := range []struct {
		name string
		l    []impl.Tent
		who  int
		tent int
		free int
	}{
		{"in the first tent", someIn, 8, 2, 2},
		{"in the last tent", someIn, 2, 9, 2},
		{"in a tent amid others", someIn, 3, 4, 2},
		{"the first in a tent", someIn, 7, 5, 2},
		{"the last in a tent", someIn, 1, 5, 2},
		{"a tent's Id and no Who", someIn, 4, 0, 2},
		{"in none", someIn, 9, 0, 2},
		{"in none, 0", someIn, 0, 0, 2},
		{"in none, the greatest int", someIn, math.MaxInt, 0, 2},
		{"in none, the least int", someIn, math.MinInt, 0, 2},
		{"in an empty tent", threeTents, 1, 0, 6},
		{"in full tents", allIn, 3, 99, 0},
		{"0 in a tent", oddIn, 0, 3, 5},
		{"below 0 in a tent", oddIn, -1, 3, 5},
		{"the greatest int in a tent", oddIn, math.MaxInt, 3, 5},
		{"the least int in a tent", oddIn, math.MinInt, 7, 5},
		{"as many beds as there can be", great, 1, 0, 48},
		{"as many in beds as there can be", fullTents(8, 6), 48, 99, 0},
		{"in no tents", nil, 1, 0, 0},
		{"in no tents, empty", []impl.Tent{}, 0, 0, 0},
		{"in two tents", []impl.Tent{tentOf(1, 2), tentOf(2, 2, 3, 1), tentOf(3, 2, 1)}, 1, 2, 0},
		{"in tents in no order", []impl.Tent{tentOf(8, 2), tentOf(6, 2, 5), tentOf(4, 2, 5)}, 5, 6, 0},
		{"in a tent with too many", []impl.Tent{tentOf(8, 1, 4, 5, 6)}, 6, 8, 0},
		{"in a tent without beds", []impl.Tent{tentOf(8, 0, 4)}, 4, 8, 0},
		{"in a tent of 0", []impl.Tent{tentOf(0, 2, 4), tentOf(3, 2, 4)}, 4, 0, 0},
		{"in a tent below 0", []impl.Tent{tentOf(-5, 2, 4)}, 4, -5, 0},
		{"in a tent of the greatest int", []impl.Tent{tentOf(math.MaxInt, math.MaxInt, 4)}, 4, math.MaxInt, 0},
		{"in a tent of the least int", []impl.Tent{tentOf(math.MinInt, math.MinInt, 4)}, 4, math.MinInt, 0},
	} {
		if got := impl.TentOf(c.l, c.who); got != c.tent {
			t.Errorf("%s: TentOf(%v, %d) is %d, not %d", c.name, c.l, c.who, got, c.tent)
		}
		if got := impl.BedsFree(c.l); got != c.free {
			t.Errorf("%s: BedsFree(%v) is %d, not %d", c.name, c.l, got, c.free)
		}
	}
}

func TestMoveTo(t *testing.T) {
	for _, c := range []struct {
		name string
		l    []impl.Tent
		who  int
		tent int
		want []impl.Tent
		ok   bool
	}{
		{"behind others", someIn, 3, 5, []impl.Tent{tentOf(2, 1, 8), tentOf(4, 2), tentOf(5, 3, 7, 1, 3), tentOf(9, 2, 6, 2)}, true},
		{"the first of a tent", someIn, 7, 4, []impl.Tent{tentOf(2, 1, 8), tentOf(4, 2, 3, 7), tentOf(5, 3, 1), tentOf(9, 2, 6, 2)}, true},
		{"the last of a tent", someIn, 1, 4, []impl.Tent{tentOf(2, 1, 8), tentOf(4, 2, 3, 1), tentOf(5, 3, 7), tentOf(9, 2, 6, 2)}, true},
		{"the only one of a tent", someIn, 8, 4, []impl.Tent{tentOf(2, 1), tentOf(4, 2, 3, 8), tentOf(5, 3, 7, 1), tentOf(9, 2, 6, 2)}, true},
		{"from the last tent", someIn, 6, 4, []impl.Tent{tentOf(2, 1, 8), tentOf(4, 2, 3, 6), tentOf(5, 3, 7, 1), tentOf(9, 2, 2)}, true},
		{"one amid others, to an empty tent", []impl.Tent{tentOf(1, 3, 4, 5, 6), tentOf(2, 1)}, 5, 2, []impl.Tent{tentOf(1, 3, 4, 6), tentOf(2, 1, 5)}, true},
		{"to the first tent", []impl.Tent{tentOf(1, 3), tentOf(2, 1, 5)}, 5, 1, []impl.Tent{tentOf(1, 3, 5), tentOf(2, 1)}, true},
		{"to a bed that was the last one free", []impl.Tent{tentOf(1, 6, 1, 2, 3, 4, 5), tentOf(2, 1, 6)}, 6, 1, []impl.Tent{tentOf(1, 6, 1, 2, 3, 4, 5, 6), tentOf(2, 1)}, true},
		{"from a full tent", []impl.Tent{tentOf(1, 2, 4, 5), tentOf(2, 1)}, 4, 2, []impl.Tent{tentOf(1, 2, 5), tentOf(2, 1, 4)}, true},
		{"one of 0", oddIn, 0, 7, []impl.Tent{tentOf(3, 6, -1, math.MaxInt), tentOf(7, 4, math.MinInt, 100, 0)}, true},
		{"the least int", oddIn, math.MinInt, 3, []impl.Tent{tentOf(3, 6, 0, -1, math.MaxInt, math.MinInt), tentOf(7, 4, 100)}, true},
		{"to the tent in which it is", someIn, 3, 4, someIn, false},
		{"to the tent in which it is, which is full", someIn, 8, 2, someIn, false},
		{"to the tent in which it is, the last of others", someIn, 1, 5, someIn, false},
		{"to a full tent", someIn, 3, 2, someIn, false},
		{"to a full tent of several beds", someIn, 3, 9, someIn, false},
		{"to a full tent, where all are", allIn, 3, 1, allIn, false},
		{"to no tent", someIn, 3, 6, someIn, false},
		{"to no tent, a place", someIn, 3, 1, someIn, false},
		{"to no tent, 0", someIn, 3, 0, someIn, false},
		{"to no tent, the greatest int", someIn, 3, math.MaxInt, someIn, false},
		{"to no tent, the least int", someIn, 3, math.MinInt, someIn, false},
		{"who is in none", someIn, 9, 4, someIn, false},
		{"who is in none, 0", someIn, 0, 4, someIn, false},
		{"who is in none, as all are empty", threeTents, 1, 4, threeTents, false},
		{"who is in none, to no tent", someIn, 9, 6, someIn, false},
		{"the greatest int, who is in none", someIn, math.MaxInt, 4, someIn, false},
		{"no tents", nil, 1, 1, nil, false},
		{"no tents, empty", []impl.Tent{}, 0, 0, nil, false},
		{"in two tents", []impl.Tent{tentOf(1, 2, 1), tentOf(2, 2, 1), tentOf(3, 1)}, 1, 3, []impl.Tent{tentOf(1, 2, 1), tentOf(2, 2, 1), tentOf(3, 1)}, false},
		{"another one is in two tents", []impl.Tent{tentOf(1, 2, 1, 5), tentOf(2, 2, 1), tentOf(3, 1)}, 5, 3, []impl.Tent{tentOf(1, 2, 1, 5), tentOf(2, 2, 1), tentOf(3, 1)}, false},
		{"from a tent with too many", []impl.Tent{tentOf(1, 1, 1, 2), tentOf(2, 2)}, 1, 2, []impl.Tent{tentOf(1, 1, 1, 2), tentOf(2, 2)}, false},
		{"to one of two tents with an Id", []impl.Tent{tentOf(1, 1, 1), tentOf(2, 2), tentOf(2, 2)}, 1, 2, []impl.Tent{tentOf(1, 1, 1), tentOf(2, 2), tentOf(2, 2)}, false},
		{"to a tent with too many beds", []impl.Tent{tentOf(1, 1, 1), tentOf(2, 7)}, 1, 2, []impl.Tent{tentOf(1, 1, 1), tentOf(2, 7)}, false},
	} {
		checkMove(t, c.name, c.l, c.who, c.tent, c.want, c.ok)
	}
}

func TestMoveToInFewTents(t *testing.T) {
	moved := 0
	for l := range fewTents() {
		for who := range 5 {
			for tent := 1; tent <= 4; tent++ {
				want, ok := moveToOf(l, who, tent)
				checkMove(t, "few", l, who, tent, want, ok)
				if ok {
					moved++
				}
			}
		}
	}
	if moved < 100 {
		t.Errorf("only %d moved", moved)
	}
}

func TestEverybodyHasOneBed(t *testing.T) {
	throw := dice()
	put, moved := 0, 0
	for _, crew := range goodCrews() {
		l := strewnTents(throw, append(idsOf(crew), 100, 0, -1))
		if !impl.AreTents(l) || impl.BedsFree(l) != bedsOf(l)-len(everybodyIn(l)) {
			t.Errorf("of %v, %d beds are free", l, impl.BedsFree(l))
		}
		want, ok := putUpOf(l, crew)
		checkPutUp(t, "strewn", l, crew, want, ok)
		tents, _ := impl.PutUp(l, crew)
		if ok {
			put++
			checkEachInABed(t, tents, crew)
		}
		for range 30 {
			who, to := throw(101)-1, throw(100)
			if len(tents) > 0 && throw(6) > 0 {
				to = tents[throw(len(tents))].Id
			}
			if in := everybodyIn(tents); len(in) > 0 && throw(6) > 0 {
				who = in[throw(len(in))]
			}
			want, ok := moveToOf(tents, who, to)
			checkMove(t, "strewn", tents, who, to, want, ok)
			next, _ := impl.MoveTo(tents, who, to)
			if ok {
				moved++
				if impl.TentOf(next, who) != to || impl.BedsFree(next) != impl.BedsFree(tents) {
					t.Errorf("MoveTo(%v, %d, %d) gives %v", tents, who, to, next)
				}
			}
			if !areTentsOf(next) || len(everybodyIn(next)) != len(everybodyIn(tents)) {
				t.Errorf("MoveTo(%v, %d, %d) gives %v", tents, who, to, next)
			}
			tents = next
		}
	}
	if put < 200 || moved < 1000 {
		t.Errorf("only %d crews were put up, and %d moved", put, moved)
	}
}

// checkEachInABed takes tents in which a crew was put up.
func checkEachInABed(t *testing.T, tents []impl.Tent, crew []impl.Member) {
	t.Helper()
	if !areTentsOf(tents) || !slices.Equal(everybodyIn(tents), idsOf(crew)) || impl.BedsFree(tents) != bedsOf(tents)-len(crew) {
		t.Errorf("in %v, with %d beds free, are not just %v", tents, impl.BedsFree(tents), crew)
	}
	for _, m := range crew {
		tent, found := 0, false
		for _, x := range tents {
			if !found && slices.Contains(x.Who, m.Id) {
				tent, found = x.Id, true
			}
		}
		if got := impl.TentOf(tents, m.Id); !found || got != tent {
			t.Errorf("TentOf(%v, %d) is %d", tents, m.Id, got)
		}
	}
}

func TestNobodyIsPutUpInBadTents(t *testing.T) {
	for _, l := range badTents() {
		checkPutUp(t, "bad tents", l, pair, l, false)
		checkPutUp(t, "bad tents", l, []impl.Member{well(1, 1, 1)}, l, false)
		if got := impl.BedsFree(l); got != 0 {
			t.Errorf("BedsFree(%v) is %d", l, got)
		}
		for _, who := range append(everybodyIn(l)[:min(len(everybodyIn(l)), 9)], 77) {
			for _, x := range l[:min(len(l), 9)] {
				checkMove(t, "bad tents", l, who, x.Id, l, false)
			}
			checkMove(t, "bad tents", l, who, 98, l, false)
		}
	}
	for _, crew := range badCrews() {
		checkPutUp(t, "bad crew", great, crew, great, false)
		checkPutUp(t, "bad crew", someIn, crew, someIn, false)
	}
}

func TestTentsStayAsTheyWere(t *testing.T) {
	for _, tents := range append(badTents(), namedTents...) {
		if len(tents) > 100 || slices.ContainsFunc(tents, func(x impl.Tent) bool { return len(x.Who) > 100 }) {
			continue
		}
		l := guardTents(tents)
		for _, members := range [][]impl.Member{nil, pair, trio, strong} {
			crew := guard(members...)
			checkOwnTents(t, "PutUp", l, func() []impl.Tent {
				put, _ := impl.PutUp(l.list, crew.list)
				return put
			})
			crew.check(t, "PutUp")
		}
		for _, who := range append(everybodyIn(tents), 77) {
			for _, tent := range []int{0, 1, 2, 4, 5, 7, 9, 99} {
				checkOwnTents(t, "MoveTo", l, func() []impl.Tent {
					moved, _ := impl.MoveTo(l.list, who, tent)
					return moved
				})
			}
			impl.TentOf(l.list, who)
		}
		impl.AreTents(l.list)
		impl.BedsFree(l.list)
		l.check(t, "the functions of tents")
	}
}

func TestTentsKeepNoState(t *testing.T) {
	l := tentsLike(someIn)
	first, _ := impl.MoveTo(l, 3, 5)
	l[2].Beds = 2
	second, ok := impl.MoveTo(l, 3, 5)
	l[2].Who = nil
	third, _ := impl.MoveTo(l, 3, 5)
	if !slices.Equal(first[2].Who, []int{7, 1, 3}) || ok || !slices.Equal(second[2].Who, []int{7, 1}) || !slices.Equal(third[2].Who, []int{3}) {
		t.Errorf("while the tents change, MoveTo gives %v, %v and %v", first, second, third)
	}
}
