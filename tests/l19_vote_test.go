package tests

import (
	"iter"
	"math"
	"slices"
	"testing"

	"loop.example/g03008/impl"
)

// five are members of whom one is ill, and who can all vote.
var five = []impl.Member{well(1, 5, 1), well(2, 5, 1), ill(4, 5, 1), well(7, 5, 1), well(9, 5, 1)}

// votesOf are votes, each given as who votes and for what.
func votesOf(pairs ...[2]int) []impl.Vote {
	v := []impl.Vote{}
	for _, pair := range pairs {
		v = append(v, impl.Vote{Who: pair[0], Choice: pair[1]})
	}
	return v
}

// fiveVote are votes of the five for choices, in their order; -1 for one who
// does not vote.
func fiveVote(choices ...int) []impl.Vote {
	v := []impl.Vote{}
	for i, choice := range choices {
		if choice != -1 {
			v = append(v, impl.Vote{Who: five[i].Id, Choice: choice})
		}
	}
	return v
}

// areVotesOf is AreVotes of a valid crew.
func areVotesOf(l []impl.Member, v []impl.Vote) bool {
	for i, vote := range v {
		if !slices.Contains(idsOf(l), vote.Who) || vote.Choice < 0 || vote.Choice > 9 {
			return false
		}
		for _, other := range v[:i] {
			if other.Who == vote.Who {
				return false
			}
		}
	}
	return true
}

// countForOf is CountFor.
func countForOf(v []impl.Vote, choice int) int {
	return len(slices.DeleteFunc(slices.Clone(v), func(vote impl.Vote) bool { return vote.Choice != choice }))
}

// outcomeOf is Outcome of a valid crew: of the choices with the most votes, in
// ascending order, the leader's or the first one.
func outcomeOf(l []impl.Member, v []impl.Vote, leader int) int {
	if len(v) == 0 || !areVotesOf(l, v) {
		return -1
	}
	best, most := []int{}, 1
	for choice := range 10 {
		if count := countForOf(v, choice); count > most {
			best, most = []int{choice}, count
		} else if count == most {
			best = append(best, choice)
		}
	}
	for _, vote := range v {
		if vote.Who == leader && slices.Contains(best, vote.Choice) {
			return vote.Choice
		}
	}
	return best[0]
}

// addVoteOf is AddVote of a valid crew.
func addVoteOf(l []impl.Member, v []impl.Vote, x impl.Vote) ([]impl.Vote, bool) {
	votes, placed := []impl.Vote{}, false
	for _, vote := range v {
		if vote.Who == x.Who && !placed {
			vote, placed = x, true
		}
		votes = append(votes, vote)
	}
	if !placed {
		votes = append(votes, x)
	}
	if !areVotesOf(l, votes) {
		return v, false
	}
	return votes, true
}

// votesAmong are all lists of up to so many votes of some, for some choices.
func votesAmong(most int, who []int, choices []int) iter.Seq[[]impl.Vote] {
	return func(yield func([]impl.Vote) bool) {
		lists := [][]impl.Vote{{}}
		for len(lists) > 0 {
			v := lists[0]
			lists = lists[1:]
			if !yield(v) {
				return
			}
			for _, w := range who {
				for _, choice := range choices {
					if len(v) < most {
						lists = append(lists, append(slices.Clone(v), impl.Vote{Who: w, Choice: choice}))
					}
				}
			}
		}
	}
}

// strewnVotes are of members of a crew, each for one of so many choices, and for
// the most part valid.
func strewnVotes(throw func(sides int) int, l []impl.Member, choices int) []impl.Vote {
	v := []impl.Vote{}
	for _, m := range l {
		if throw(5) > 0 {
			v = slices.Insert(v, throw(len(v)+1), impl.Vote{Who: m.Id, Choice: throw(choices)})
		}
	}
	if len(v) > 0 && throw(10) == 0 {
		v[throw(len(v))].Who = throw(100)
	}
	if len(v) > 0 && throw(10) == 0 {
		v[throw(len(v))].Choice = throw(14) - 2
	}
	return v
}

func checkOutcome(t *testing.T, name string, l []impl.Member, v []impl.Vote, leader int, want int) {
	t.Helper()
	if got := impl.Outcome(l, v, leader); got != want {
		t.Errorf("%s: Outcome(%v, %v, %d) is %d, not %d", name, l, v, leader, got, want)
	}
}

func checkAdd(t *testing.T, name string, l []impl.Member, v []impl.Vote, x impl.Vote, want []impl.Vote, ok bool) {
	t.Helper()
	if got, gotOk := impl.AddVote(l, v, x); gotOk != ok || !slices.Equal(got, want) {
		t.Errorf("%s: AddVote(%v, %v, %v) is %v and %v, not %v and %v", name, l, v, x, got, gotOk, want, ok)
	}
}

func TestAreVotes(t *testing.T) {
	for _, c := range []struct {
		name string
		l    []impl.Member
		v    []impl.Vote
		want bool
	}{
		{"all vote", five, fiveVote(5, 2, 5, 1, 0), true},
		{"all vote, in no order", five, votesOf([2]int{7, 1}, [2]int{1, 1}, [2]int{9, 3}, [2]int{4, 1}, [2]int{2, 0}), true},
		{"some vote", five, fiveVote(-1, 2, -1, 1), true},
		{"one votes", five, fiveVote(-1, -1, -1, -1, 3), true},
		{"the ill one votes", five, votesOf([2]int{4, 3}), true},
		{"all ill", sick, votesOf([2]int{31, 3}, [2]int{2, 3}), true},
		{"a crew of one", five[:1], fiveVote(4), true},
		{"a crew of one who is ill", sick[:1], votesOf([2]int{2, 4}), true},
		{"nobody votes", five, nil, true},
		{"nobody votes, empty", five, []impl.Vote{}, true},
		{"the least choice", five, fiveVote(0), true},
		{"the greatest choice", five, fiveVote(9), true},
		{"a choice too great", five, fiveVote(10), false},
		{"a choice too great behind others", five, fiveVote(3, 2, 10), false},
		{"a choice too great before others", five, fiveVote(10, 2, 3), false},
		{"a choice below 0", five, votesOf([2]int{1, -1}), false},
		{"a choice below 0 behind others", five, votesOf([2]int{1, 3}, [2]int{4, -1}), false},
		{"the greatest int of a choice", five, fiveVote(math.MaxInt), false},
		{"the least int of a choice", five, fiveVote(math.MinInt), false},
		{"a Who that is nobody's Id", five, votesOf([2]int{3, 1}), false},
		{"a Who that is nobody's Id behind others", five, votesOf([2]int{1, 1}, [2]int{2, 1}, [2]int{8, 1}), false},
		{"a Who of 0", five, votesOf([2]int{0, 1}), false},
		{"a Who below 0", five, votesOf([2]int{-1, 1}), false},
		{"the greatest int of a Who", five, votesOf([2]int{math.MaxInt, 1}), false},
		{"the least int of a Who", five, votesOf([2]int{math.MinInt, 1}), false},
		{"one votes twice", five, votesOf([2]int{1, 1}, [2]int{1, 2}), false},
		{"one votes twice for the same", five, votesOf([2]int{1, 1}, [2]int{1, 1}), false},
		{"one votes twice, not one after the other", five, votesOf([2]int{2, 1}, [2]int{7, 2}, [2]int{1, 2}, [2]int{2, 3}), false},
		{"the ill one votes twice", five, votesOf([2]int{4, 1}, [2]int{1, 1}, [2]int{4, 1}), false},
		{"all vote, and one again", five, append(fiveVote(1, 1, 1, 1, 1), impl.Vote{Who: 9, Choice: 1}), false},
		{"no crew", nil, nil, false},
		{"no crew, and a vote", nil, fiveVote(1), false},
		{"no crew, and a vote of nobody", nil, make([]impl.Vote, 1), false},
	} {
		if got := impl.AreVotes(c.l, c.v); got != c.want {
			t.Errorf("%s: AreVotes(%v, %v) is %v", c.name, c.l, c.v, got)
		}
	}
}

func TestCountFor(t *testing.T) {
	v := fiveVote(5, 2, 5, 1, 5)
	for choice, want := range map[int]int{5: 3, 2: 1, 1: 1, 0: 0, 3: 0, 9: 0, 10: 0, -1: 0, math.MaxInt: 0, math.MinInt: 0} {
		if got := impl.CountFor(v, choice); got != want {
			t.Errorf("CountFor(%v, %d) is %d, not %d", v, choice, got, want)
		}
		if got := impl.CountFor(nil, choice); got != 0 {
			t.Errorf("CountFor(nil, %d) is %d", choice, got)
		}
		if got := impl.CountFor([]impl.Vote{}, choice); got != 0 {
			t.Errorf("CountFor of no votes for %d is %d", choice, got)
		}
	}
	// Votes are counted, whoever voted, and for whatever.
	odd := votesOf([2]int{1, 10}, [2]int{1, 10}, [2]int{-3, -1}, [2]int{0, math.MaxInt}, [2]int{8, math.MinInt}, [2]int{8, 10}, [2]int{8, 0})
	for choice, want := range map[int]int{10: 3, -1: 1, math.MaxInt: 1, math.MinInt: 1, 0: 1, 1: 0, 8: 0, 9: 0} {
		if got := impl.CountFor(odd, choice); got != want {
			t.Errorf("CountFor(%v, %d) is %d, not %d", odd, choice, got, want)
		}
	}
}

func TestOutcome(t *testing.T) {
	for _, c := range []struct {
		name   string
		v      []impl.Vote
		leader int
		want   int
	}{
		{"the most votes", fiveVote(5, 2, 5, 1, 3), 2, 5},
		{"the most votes, though the leader wants another", fiveVote(5, 2, 5, 1, 5), 7, 5},
		{"the most votes, the greatest choice", fiveVote(9, 0, 9, 0, 9), 2, 9},
		{"the most votes, the least choice", fiveVote(9, 0, 9, 0, 0), 1, 0},
		{"all vote for the same", fiveVote(4, 4, 4, 4, 4), 1, 4},
		{"one vote", fiveVote(-1, -1, -1, 6), 1, 6},
		{"one vote, of the leader", fiveVote(-1, -1, -1, 6), 7, 6},
		{"one vote for the least choice", fiveVote(0), 1, 0},
		{"one vote for the greatest choice", fiveVote(9), 1, 9},
		{"one vote, of the ill one", votesOf([2]int{4, 8}), 1, 8},
		{"of two, the leader's, the least one", fiveVote(5, 2, 5, 2), 2, 2},
		{"of two, the leader's, the greatest one", fiveVote(5, 2, 5, 2), 1, 5},
		{"of two, the leader's, behind others", fiveVote(5, 2, 2, 5), 7, 5},
		{"of two, the leader is ill", fiveVote(2, 2, 5, 5), 4, 5},
		{"of two, the leader wants neither", fiveVote(5, 2, 5, 2, 7), 9, 2},
		{"of two, the leader wants neither, and less", fiveVote(5, 2, 5, 2, 1), 9, 2},
		{"of two, the leader does not vote", fiveVote(5, 2, 5, 2), 9, 2},
		{"of two, the leader is no member", fiveVote(5, 2, 5, 2), 3, 2},
		{"of two, the leader is 0", fiveVote(5, 2, 5, 2), 0, 2},
		{"of two, the leader is a choice and no Id", fiveVote(5, 3, 5, 3), 5, 3},
		{"of two, the leader is the greatest int", fiveVote(5, 2, 5, 2), math.MaxInt, 2},
		{"of two, the leader is the least int", fiveVote(5, 2, 5, 2), math.MinInt, 2},
		{"of two with one vote each", fiveVote(5, 2), 1, 5},
		{"of two with one vote each, not the leader's", fiveVote(5, 2), 9, 2},
		{"of all, the leader's", fiveVote(9, 8, 7, 6, 5), 4, 7},
		{"of all, the least one", fiveVote(9, 8, 7, 6, 5), 3, 5},
		{"of three, and a lesser one with fewer", fiveVote(3, 2, 1, 0), 4, 1},
		{"of the least and the greatest choice", fiveVote(9, 0), 4, 0},
		{"of the least and the greatest choice, the leader's", fiveVote(9, 0), 1, 9},
		{"of two, and 0 is not one of them", fiveVote(9, 9, 8, 8, 0), 9, 8},
		{"no votes", nil, 1, -1},
		{"no votes, empty", []impl.Vote{}, 1, -1},
		{"a choice that is none", fiveVote(10), 1, -1},
		{"a choice that is none behind others", fiveVote(5, 5, 5, 10), 1, -1},
		{"a choice below 0", votesOf([2]int{1, -1}), 1, -1},
		{"the greatest int of a choice", votesOf([2]int{1, math.MaxInt}), 1, -1},
		{"the least int of a choice", votesOf([2]int{1, math.MinInt}), 1, -1},
		{"a Who that is nobody's Id", votesOf([2]int{1, 5}, [2]int{3, 5}), 1, -1},
		{"a Who that votes twice", votesOf([2]int{1, 5}, [2]int{1, 5}), 1, -1},
	} {
		checkOutcome(t, c.name, five, c.v, c.leader, c.want)
	}
}

func TestIsMajority(t *testing.T) {
	four := five[:4]
	for _, c := range []struct {
		name   string
		l      []impl.Member
		v      []impl.Vote
		choice int
		want   bool
	}{
		{"three of four", four, fiveVote(5, 5, 5, 1), 5, true},
		{"just half", four, fiveVote(5, 5, 1, 1), 5, false},
		{"just half, where no others vote", four, fiveVote(5, 5), 5, false},
		{"three of four, where the other one does not vote", four, fiveVote(5, -1, 5, 5), 5, true},
		{"three of five", five, fiveVote(5, 1, 5, 2, 5), 5, true},
		{"three of five, where no others vote", five, fiveVote(5, -1, 5, -1, 5), 5, true},
		{"two of five", five, fiveVote(5, 1, 5, 2, 3), 5, false},
		{"two of five, where no others vote", five, fiveVote(5, -1, 5), 5, false},
		{"all", five, fiveVote(0, 0, 0, 0, 0), 0, true},
		{"one of two", pair, fiveVote(5, 1), 5, false},
		{"one of two, where the other one does not vote", pair, fiveVote(5), 5, false},
		{"both of two", pair, fiveVote(5, 5), 5, true},
		{"a crew of one", five[:1], fiveVote(9), 9, true},
		{"a crew of one that does not vote", five[:1], nil, 0, false},
		{"five of eight", strong, votesOf([2]int{99, 3}, [2]int{98, 3}, [2]int{1, 3}, [2]int{2, 3}, [2]int{3, 3}), 3, true},
		{"four of eight", strong, votesOf([2]int{99, 3}, [2]int{98, 3}, [2]int{1, 3}, [2]int{2, 3}, [2]int{3, 2}), 3, false},
		{"the ill count", sick, votesOf([2]int{2, 3}, [2]int{30, 3}), 3, true},
		{"who is ill is of the crew", []impl.Member{well(1, 1, 1), ill(2, 1, 1)}, votesOf([2]int{1, 3}), 3, false},
		{"another choice", four, fiveVote(5, 5, 5, 1), 1, false},
		{"a choice of nobody", four, fiveVote(5, 5, 5, 1), 0, false},
		{"a choice that is none", four, fiveVote(5, 5, 5, 1), 10, false},
		{"a choice that is none, and has the votes", four, fiveVote(10, 10, 10), 10, false},
		{"a choice below 0 that has the votes", four, votesOf([2]int{1, -1}, [2]int{2, -1}, [2]int{4, -1}), -1, false},
		{"the greatest int", four, fiveVote(5, 5, 5, 1), math.MaxInt, false},
		{"the least int", four, fiveVote(5, 5, 5, 1), math.MinInt, false},
		{"no votes", four, nil, 0, false},
		{"a Who that votes twice", four, append(fiveVote(5, 5, 5), impl.Vote{Who: 1, Choice: 5}), 5, false},
		{"a Who that is nobody's Id", four, append(fiveVote(5, 5, 5), impl.Vote{Who: 3, Choice: 5}), 5, false},
		{"another choice that is none", four, fiveVote(5, 5, 5, 10), 5, false},
		{"no crew", nil, nil, 0, false},
		{"no crew, and a vote", nil, fiveVote(5), 5, false},
	} {
		if got := impl.IsMajority(c.l, c.v, c.choice); got != c.want {
			t.Errorf("%s: IsMajority(%v, %v, %d) is %v", c.name, c.l, c.v, c.choice, got)
		}
	}
}

func TestAddVote(t *testing.T) {
	three := fiveVote(5, 2, -1, 8)
	for _, c := range []struct {
		name string
		v    []impl.Vote
		x    impl.Vote
		want []impl.Vote
		ok   bool
	}{
		{"a first vote", nil, impl.Vote{Who: 2, Choice: 3}, votesOf([2]int{2, 3}), true},
		{"a first vote, to an empty list", []impl.Vote{}, impl.Vote{Who: 2, Choice: 3}, votesOf([2]int{2, 3}), true},
		{"another one", three, impl.Vote{Who: 9, Choice: 5}, votesOf([2]int{1, 5}, [2]int{2, 2}, [2]int{7, 8}, [2]int{9, 5}), true},
		{"of the ill one", three, impl.Vote{Who: 4, Choice: 0}, votesOf([2]int{1, 5}, [2]int{2, 2}, [2]int{7, 8}, [2]int{4, 0}), true},
		{"in place of the first", three, impl.Vote{Who: 1, Choice: 9}, votesOf([2]int{1, 9}, [2]int{2, 2}, [2]int{7, 8}), true},
		{"in place of a middle one", three, impl.Vote{Who: 2, Choice: 0}, votesOf([2]int{1, 5}, [2]int{2, 0}, [2]int{7, 8}), true},
		{"in place of the last", three, impl.Vote{Who: 7, Choice: 2}, votesOf([2]int{1, 5}, [2]int{2, 2}, [2]int{7, 2}), true},
		{"in place of the only one", fiveVote(3), impl.Vote{Who: 1, Choice: 4}, fiveVote(4), true},
		{"for the same again", three, impl.Vote{Who: 2, Choice: 2}, three, true},
		{"the order stays", votesOf([2]int{9, 1}, [2]int{1, 1}, [2]int{7, 1}), impl.Vote{Who: 2, Choice: 1}, votesOf([2]int{9, 1}, [2]int{1, 1}, [2]int{7, 1}, [2]int{2, 1}), true},
		{"the order stays, in place of one", votesOf([2]int{9, 1}, [2]int{1, 1}, [2]int{7, 1}), impl.Vote{Who: 1, Choice: 2}, votesOf([2]int{9, 1}, [2]int{1, 2}, [2]int{7, 1}), true},
		{"all have voted", fiveVote(1, 2, 3, 4, 5), impl.Vote{Who: 9, Choice: 6}, fiveVote(1, 2, 3, 4, 6), true},
		{"a choice that is none", three, impl.Vote{Who: 9, Choice: 10}, three, false},
		{"a choice that is none, in place of one", three, impl.Vote{Who: 1, Choice: 10}, three, false},
		{"a choice below 0", three, impl.Vote{Who: 2, Choice: -1}, three, false},
		{"the greatest int of a choice", three, impl.Vote{Who: 2, Choice: math.MaxInt}, three, false},
		{"the least int of a choice", three, impl.Vote{Who: 9, Choice: math.MinInt}, three, false},
		{"a Who that is nobody's Id", three, impl.Vote{Who: 3, Choice: 1}, three, false},
		{"a Who of 0", three, impl.Vote{}, three, false},
		{"the greatest int of a Who", three, impl.Vote{Who: math.MaxInt, Choice: 1}, three, false},
		{"the least int of a Who", three, impl.Vote{Who: math.MinInt, Choice: 1}, three, false},
		{"a first vote that is not valid", nil, impl.Vote{Who: 3}, nil, false},
		{"to a vote that is not valid", fiveVote(10), impl.Vote{Who: 2, Choice: 1}, fiveVote(10), false},
		{"in place of a vote that is not valid", fiveVote(10), impl.Vote{Who: 1, Choice: 1}, fiveVote(1), true},
		{"in place of a vote that is not valid, and another one is not", fiveVote(10, 10), impl.Vote{Who: 1, Choice: 1}, fiveVote(10, 10), false},
		{"in place of one of two votes", votesOf([2]int{1, 5}, [2]int{1, 6}), impl.Vote{Who: 1, Choice: 7}, votesOf([2]int{1, 5}, [2]int{1, 6}), false},
		{"in place of a vote of nobody", votesOf([2]int{3, 5}), impl.Vote{Who: 3, Choice: 7}, votesOf([2]int{3, 5}), false},
		{"beside a vote of nobody", votesOf([2]int{3, 5}), impl.Vote{Who: 1, Choice: 7}, votesOf([2]int{3, 5}), false},
		{"a second vote of nobody", votesOf([2]int{1, 5}, [2]int{3, 5}), impl.Vote{Who: 1, Choice: 7}, votesOf([2]int{1, 5}, [2]int{3, 5}), false},
	} {
		checkAdd(t, c.name, five, c.v, c.x, c.want, c.ok)
	}
}

func TestVotesOfEveryShortList(t *testing.T) {
	who, choices := []int{1, 4, 6, 5}, []int{0, 1, 9, 10, -1}
	for v := range votesAmong(3, who, choices) {
		valid := areVotesOf(trio, v)
		if got := impl.AreVotes(trio, v); got != valid {
			t.Errorf("AreVotes(%v, %v) is %v", trio, v, got)
		}
		for _, leader := range append(who, 0) {
			checkOutcome(t, "short", trio, v, leader, outcomeOf(trio, v, leader))
		}
		for _, choice := range append(choices, 2) {
			count := countForOf(v, choice)
			if got := impl.CountFor(v, choice); got != count {
				t.Errorf("CountFor(%v, %d) is %d, not %d", v, choice, got, count)
			}
			if got := impl.IsMajority(trio, v, choice); got != (valid && count > 1) {
				t.Errorf("IsMajority(%v, %v, %d) is %v", trio, v, choice, got)
			}
			for _, w := range who {
				x := impl.Vote{Who: w, Choice: choice}
				want, ok := addVoteOf(trio, v, x)
				checkAdd(t, "short", trio, v, x, want, ok)
			}
		}
	}
}

func TestWhatTheMajorityWantsIsDone(t *testing.T) {
	throw := dice()
	majorities, ties := 0, 0
	for _, l := range goodCrews() {
		for range 60 {
			v := strewnVotes(throw, l, 1+throw(10))
			valid := areVotesOf(l, v)
			if got := impl.AreVotes(l, v); got != valid {
				t.Errorf("AreVotes(%v, %v) is %v", l, v, got)
			}
			leader := l[throw(len(l))].Id + throw(6)/5
			want := outcomeOf(l, v, leader)
			checkOutcome(t, "strewn", l, v, leader, want)
			if want != outcomeOf(l, v, 0) {
				ties++
			}
			for choice := -1; choice <= 10; choice++ {
				votes := impl.CountFor(v, choice)
				if votes != countForOf(v, choice) {
					t.Errorf("CountFor(%v, %d) is %d", v, choice, votes)
				}
				majority := impl.IsMajority(l, v, choice)
				if majority != (valid && votes > len(l)-votes) {
					t.Errorf("IsMajority(%v, %v, %d) is %v", l, v, choice, majority)
				}
				if majority {
					checkOutcome(t, "the majority", l, v, leader, choice)
					majorities++
				}
			}
		}
	}
	if majorities < 2000 || ties < 1000 {
		t.Errorf("there are only %d majorities and %d outcomes by the leader", majorities, ties)
	}
}

func TestVotesOneAfterTheOther(t *testing.T) {
	throw := dice()
	for _, l := range goodCrews() {
		v := []impl.Vote{}
		for range 30 {
			x := impl.Vote{Who: l[throw(len(l))].Id, Choice: throw(10)}
			want, _ := addVoteOf(l, v, x)
			got, ok := impl.AddVote(l, v, x)
			if !ok || !slices.Equal(got, want) || !impl.AreVotes(l, got) {
				t.Fatalf("AddVote(%v, %v, %v) is %v and %v", l, v, x, got, ok)
			}
			v = got
		}
		if len(v) > len(l) {
			t.Errorf("%v have %v", l, v)
		}
	}
}

func TestBadCrewsDoNotVote(t *testing.T) {
	for _, l := range badCrews() {
		lists := [][]impl.Vote{nil, {}, make([]impl.Vote, 1)}
		for _, id := range idsOf(l) {
			lists = append(lists, votesOf([2]int{id, 1}))
		}
		for _, v := range lists {
			if impl.AreVotes(l, v) {
				t.Errorf("AreVotes(%v, %v) is true", l, v)
			}
			for _, id := range append(idsOf(l), 0) {
				checkOutcome(t, "bad crew", l, v, id, -1)
				checkAdd(t, "bad crew", l, v, impl.Vote{Who: id, Choice: 1}, v, false)
			}
			if impl.IsMajority(l, v, 0) || impl.IsMajority(l, v, 1) {
				t.Errorf("%v has a majority of %v", v, l)
			}
		}
	}
}

func TestVotesStayAsTheyWere(t *testing.T) {
	lists := [][]impl.Vote{nil, fiveVote(5), fiveVote(5, 2, 5, -1, 2), fiveVote(1, 2, 3, 4, 5), fiveVote(10, 2), votesOf([2]int{3, 5}, [2]int{3, 5})}
	for _, members := range append(badCrews()[:14], five, trio, sick) {
		for _, votes := range lists {
			l, v := guard(members...), guard(votes...)
			for _, x := range append(lists[3], impl.Vote{Who: 3}, impl.Vote{Who: 1, Choice: 10}) {
				add := func() []impl.Vote {
					added, _ := impl.AddVote(l.list, v.list, x)
					return added
				}
				checkOwnMemory(t, "AddVote", v, add)
				checkOwnMemory(t, "AddVote", l, add)
			}
			impl.AreVotes(l.list, v.list)
			impl.CountFor(v.list, 2)
			impl.Outcome(l.list, v.list, 2)
			impl.IsMajority(l.list, v.list, 2)
			l.check(t, "the functions of votes")
			v.check(t, "the functions of votes")
		}
	}
}

func TestVotesKeepNoState(t *testing.T) {
	l, v := slices.Clone(five), fiveVote(5, 2, 5, 2)
	first := impl.Outcome(l, v, 1)
	v[0].Choice = 2
	second := impl.Outcome(l, v, 1)
	l[0].Id = 0
	third := impl.Outcome(l, v, 1)
	if first != 5 || second != 2 || third != -1 {
		t.Errorf("while the votes change, Outcome is %d, %d and %d", first, second, third)
	}
}
