package tests

import (
	"math"
	"slices"
	"testing"

	"loop.example/g03008/impl"
)

// shareFoodOf is ShareFood for a valid crew, in which what is left is given one
// by one.
func shareFoodOf(l []impl.Member, n int) []int {
	shares, left := []int{}, n
	for _, m := range l {
		share := 0
		for (share+1)*needOf(l) <= n*m.Need {
			share++
		}
		shares = append(shares, share)
		left -= share
	}
	for i := 0; left > 0; i = (i + 1) % len(l) {
		shares[i]++
		left--
	}
	return shares
}

// shareLoadOf is ShareLoad for a valid crew that can carry so much.
func shareLoadOf(l []impl.Member, n int) []int {
	shares := make([]int, len(l))
	for i, m := range l {
		for !m.Ill && n > 0 && shares[i] < m.Strength {
			shares[i]++
			n--
		}
	}
	return shares
}

// isFairOf is IsFair.
func isFairOf(l []impl.Member, shares []int) bool {
	if len(l) != len(shares) {
		return false
	}
	for i, s := range shares {
		for k, t := range shares {
			if k != i && s*l[k].Need > (t+1)*l[i].Need+l[k].Need {
				return false
			}
		}
	}
	return true
}

func totalOf(l []int) int {
	total := 0
	for _, n := range l {
		total += n
	}
	return total
}

func checkShares(t *testing.T, name string, l []impl.Member, n int, want []int) {
	t.Helper()
	if got := impl.ShareFood(l, n); !slices.Equal(got, want) {
		t.Errorf("%s: ShareFood(%v, %d) is %v, not %v", name, l, n, got, want)
	}
}

// checkCarried checks ShareLoad and CanCarry, which is false where no loads are
// wanted.
func checkCarried(t *testing.T, name string, l []impl.Member, n int, want []int) {
	t.Helper()
	if got := impl.ShareLoad(l, n); !slices.Equal(got, want) {
		t.Errorf("%s: ShareLoad(%v, %d) is %v, not %v", name, l, n, got, want)
	}
	if got := impl.CanCarry(l, n); got != (len(want) > 0) {
		t.Errorf("%s: CanCarry(%v, %d) is %v", name, l, n, got)
	}
}

func checkFair(t *testing.T, name string, l []impl.Member, shares []int, want bool) {
	t.Helper()
	if got := impl.IsFair(l, shares); got != want {
		t.Errorf("%s: IsFair(%v, %v) is %v", name, l, shares, got)
	}
}

// messmates are three who need 2, 3 and 1, and can carry 10, nothing and 20.
var messmates = []impl.Member{well(1, 10, 2), ill(2, 50, 3), well(3, 20, 1)}

func TestShareFood(t *testing.T) {
	for _, c := range []struct {
		name string
		l    []impl.Member
		n    int
		want []int
	}{
		{"without a rest", messmates, 12, []int{4, 6, 2}},
		{"with a rest of 1", messmates, 13, []int{5, 6, 2}},
		{"with a rest of 1 that rounds down a lot", messmates, 14, []int{5, 7, 2}},
		{"with a rest of one less than members", messmates, 17, []int{6, 9, 2}},
		{"a rest of 2 of 3", messmates, 5, []int{2, 3, 0}},
		{"nothing", messmates, 0, []int{0, 0, 0}},
		{"one unit", messmates, 1, []int{1, 0, 0}},
		{"two units", messmates, 2, []int{1, 1, 0}},
		{"the most", messmates, 10000, []int{3334, 5000, 1666}},
		{"one more than the most", messmates, 10001, nil},
		{"less than nothing", messmates, -1, nil},
		{"the greatest int", messmates, math.MaxInt, nil},
		{"the least int", messmates, math.MinInt, nil},
		{"a crew of one", []impl.Member{well(9, 0, 7)}, 5, []int{5}},
		{"a crew of one, nothing", []impl.Member{well(9, 0, 7)}, 0, []int{0}},
		{"a crew of one, the most", []impl.Member{ill(9, 0, 7)}, 10000, []int{10000}},
		{"the same needs", eaters(40), 10, []int{3, 3, 2, 2}},
		{"the same needs, a rest of one less than members", eaters(40), 11, []int{3, 3, 3, 2}},
		{"the same needs, no rest", eaters(40), 12, []int{3, 3, 3, 3}},
		{"a crew of eight", strong, 17, []int{3, 2, 2, 2, 2, 2, 2, 2}},
		{"a crew of eight, a rest of 7", strong, 15, []int{2, 2, 2, 2, 2, 2, 2, 1}},
		{"a crew of eight, with different needs", full, 55, []int{4, 6, 8, 2, 10, 20, 4, 1}},
		{"a crew of eight, the most", strong, 10000, []int{1250, 1250, 1250, 1250, 1250, 1250, 1250, 1250}},
		{"all ill", sick, 16, []int{10, 1, 5}},
		{"all ill, with a rest", sick, 17, []int{11, 1, 5}},
		{"the rest is given from the first one on, whoever lacks most", []impl.Member{well(1, 1, 1), well(2, 1, 10)}, 10, []int{1, 9}},
		{"nobody", nil, 5, nil},
		{"nobody, empty", []impl.Member{}, 0, nil},
		{"a crew that is not in order", []impl.Member{well(2, 5, 2), well(1, 5, 3)}, 10, nil},
		{"a crew in which one needs nothing", []impl.Member{well(1, 5, 2), well(2, 5, 0)}, 10, nil},
		{"a crew of nine", append(slices.Clone(strong[1:]), well(1, 1, 1), well(2, 1, 1)), 10, nil},
	} {
		checkShares(t, c.name, c.l, c.n, c.want)
	}
}

func TestSharesAreFair(t *testing.T) {
	throw := dice()
	withRest := 0
	for _, l := range goodCrews() {
		for _, n := range []int{0, 1, len(l) - 1, len(l), needOf(l), needOf(l) - 1, 3*needOf(l) + 1, throw(100), throw(1000), throw(10001), 9999, 10000} {
			want := shareFoodOf(l, n)
			checkShares(t, "each crew", l, n, want)
			got := impl.ShareFood(l, n)
			if totalOf(got) != n || impl.SumOf(got) != n {
				t.Errorf("ShareFood(%v, %d) is %v, which are %d", l, n, got, totalOf(got))
			}
			checkFair(t, "what is shared", l, got, true)
			for i, m := range l {
				if least := n * m.Need / needOf(l); got[i] < least || got[i] > least+1 {
					t.Errorf("of ShareFood(%v, %d), %v gets %d", l, n, m, got[i])
				}
			}
			if n%needOf(l) > 0 {
				withRest++
			}
		}
		for _, n := range []int{-1, 10001, math.MaxInt, math.MinInt} {
			checkShares(t, "out of range", l, n, nil)
		}
	}
	if withRest < 1000 {
		t.Errorf("only %d times was there a rest", withRest)
	}
}

func TestSharesOfEachNumber(t *testing.T) {
	for _, l := range [][]impl.Member{messmates, pair, full, strong, sick} {
		for n := -2; n <= 300; n++ {
			want := []int{}
			if n >= 0 {
				want = shareFoodOf(l, n)
			}
			checkShares(t, "each number", l, n, want)
			want = nil
			if n >= 0 && n <= capOf(l) {
				want = shareLoadOf(l, n)
			}
			checkCarried(t, "each number", l, n, want)
		}
	}
}

func TestShareLoad(t *testing.T) {
	for _, c := range []struct {
		name string
		l    []impl.Member
		n    int
		want []int
	}{
		{"less than the first can carry", messmates, 7, []int{7, 0, 0}},
		{"just what the first can carry", messmates, 10, []int{10, 0, 0}},
		{"one more than the first can carry", messmates, 11, []int{10, 0, 1}},
		{"some", messmates, 14, []int{10, 0, 4}},
		{"one less than all can carry", messmates, 29, []int{10, 0, 19}},
		{"just what all can carry", messmates, 30, []int{10, 0, 20}},
		{"one more than all can carry", messmates, 31, nil},
		{"what all could carry if nobody were ill", messmates, 80, nil},
		{"nothing", messmates, 0, []int{0, 0, 0}},
		{"one unit", messmates, 1, []int{1, 0, 0}},
		{"less than nothing", messmates, -1, nil},
		{"the greatest int", messmates, math.MaxInt, nil},
		{"the least int", messmates, math.MinInt, nil},
		{"the first one is ill", []impl.Member{ill(1, 50, 1), well(2, 5, 1)}, 3, []int{0, 3}},
		{"the last one is ill", []impl.Member{well(2, 5, 1), ill(3, 50, 1)}, 5, []int{5, 0}},
		{"the first one has no strength", []impl.Member{well(1, 0, 1), well(2, 5, 1)}, 5, []int{0, 5}},
		{"all ill, nothing", sick, 0, []int{0, 0, 0}},
		{"all ill, one unit", sick, 1, nil},
		{"nobody has strength, nothing", weak, 0, []int{0, 0}},
		{"nobody has strength, one unit", weak, 1, nil},
		{"a crew of one", []impl.Member{well(99, 100, 10)}, 100, []int{100}},
		{"a crew of one, one more", []impl.Member{well(99, 100, 10)}, 101, nil},
		{"a crew of eight", strong, 750, []int{100, 100, 100, 100, 100, 100, 100, 50}},
		{"a crew of eight, as much as they can", strong, 800, []int{100, 100, 100, 100, 100, 100, 100, 100}},
		{"a crew of eight, one more", strong, 801, nil},
		{"a crew of eight, some of them ill or weak", full, 200, []int{40, 55, 0, 55, 0, 0, 50, 0}},
		{"nobody", nil, 0, nil},
		{"nobody, a unit", []impl.Member{}, 1, nil},
		{"a crew that is not in order", []impl.Member{well(2, 5, 2), well(1, 5, 3)}, 0, nil},
		{"a crew that is not in order, a unit", []impl.Member{well(2, 5, 2), well(1, 5, 3)}, 1, nil},
	} {
		checkCarried(t, c.name, c.l, c.n, c.want)
	}
}

func TestLoadsOfStrewnCrews(t *testing.T) {
	throw := dice()
	for _, l := range goodCrews() {
		most := capOf(l)
		for _, n := range []int{0, 1, throw(most + 1), throw(most + 1), most - 1, most} {
			if n < 0 || n > most {
				continue
			}
			want := shareLoadOf(l, n)
			checkCarried(t, "each crew", l, n, want)
			if got := impl.ShareLoad(l, n); totalOf(got) != n {
				t.Errorf("ShareLoad(%v, %d) is %v, which are %d", l, n, got, totalOf(got))
			}
		}
		for _, n := range []int{-1, most + 1, 10000, math.MaxInt, math.MinInt} {
			checkCarried(t, "out of range", l, n, nil)
		}
	}
}

func TestIsFair(t *testing.T) {
	for _, c := range []struct {
		name   string
		l      []impl.Member
		shares []int
		want   bool
	}{
		{"in proportion", messmates, []int{4, 6, 2}, true},
		{"nothing for all", messmates, []int{0, 0, 0}, true},
		{"far too much for one", messmates, []int{9, 2, 1}, false},
		{"too few shares", messmates, []int{4, 6}, false},
		{"no shares", messmates, nil, false},
		{"too many shares", messmates, []int{4, 6, 2, 0}, false},
		{"too many shares, for nobody", nil, []int{0}, false},
		{"no shares for nobody", nil, nil, true},
		{"no shares for nobody, empty", []impl.Member{}, []int{}, true},
		// Of pair, who need 2 and 1, with the shares s and t: s is at most 2t + 3,
		// and 2t at most s + 3.
		{"just fair for the second", pair, []int{7, 2}, true},
		{"just not fair for the second", pair, []int{8, 2}, false},
		{"just fair for the first", pair, []int{1, 2}, true},
		{"just not fair for the first", pair, []int{0, 2}, false},
		{"just fair for the first, one more for both", pair, []int{3, 3}, true},
		{"just not fair for the first, one more for both", pair, []int{2, 3}, false},
		{"just fair with nothing for the second", pair, []int{3, 0}, true},
		{"just not fair with nothing for the second", pair, []int{4, 0}, false},
		{"just fair with nothing for the first", pair, []int{0, 1}, true},
		{"not fair between the last two alone", []impl.Member{well(1, 1, 1), well(2, 1, 1), well(3, 1, 1)}, []int{2, 1, 4}, false},
		{"just fair between all", []impl.Member{well(1, 1, 1), well(2, 1, 1), well(3, 1, 1)}, []int{2, 2, 4}, true},
		{"not fair between the first and the last alone", []impl.Member{well(1, 1, 1), well(2, 1, 1), well(3, 1, 1)}, []int{4, 3, 1}, false},
		{"negative shares that are just fair", pair, []int{-3, -2}, true},
		{"negative shares that are just not fair", pair, []int{0, -2}, false},
		{"a negative share that is just fair", pair, []int{1, -1}, true},
		{"a negative share that is just not fair", pair, []int{2, -1}, false},
		{"one member, whatever there is", pair[:1], []int{1000000}, true},
		{"one member, a negative share", pair[:1], []int{-5}, true},
		{"one member, the greatest int", pair[:1], []int{math.MaxInt}, true},
		{"one member, the least int", pair[:1], []int{math.MinInt}, true},
		{"one who is no member, with a Need below 0", []impl.Member{well(1, 1, -5)}, []int{3}, true},
		{"two with the same Id", []impl.Member{well(1, 1, 1), well(1, 1, 1)}, []int{3, 0}, false},
		{"two who are the same, just fair", []impl.Member{well(1, 1, 1), well(1, 1, 1)}, []int{3, 1}, true},
		{"two who need nothing", []impl.Member{well(1, 1, 0), well(2, 1, 0)}, []int{50, 0}, true},
		{"one who needs nothing", []impl.Member{well(1, 1, 0), well(2, 1, 5)}, []int{1, 50}, true},
		{"one who needs nothing and gets too much", []impl.Member{well(1, 1, 0), well(2, 1, 5)}, []int{2, 50}, false},
		{"ill or not", []impl.Member{ill(1, 1, 2), ill(2, 1, 1)}, []int{8, 2}, false},
		{"more members than a crew has", append(slices.Clone(strong), strong...), slices.Repeat([]int{7}, 16), true},
		{"products that wrap around", pair, []int{0, math.MaxInt}, true},
		{"a sum that wraps around", []impl.Member{well(1, 1, 1), well(2, 1, 1)}, []int{0, math.MaxInt}, false},
		{"the greatest int for both", []impl.Member{well(1, 1, 1), well(2, 1, 1)}, []int{math.MaxInt, math.MaxInt}, false},
		{"the greatest int for both of pair", pair, []int{math.MaxInt, math.MaxInt}, false},
		{"the least int for both", []impl.Member{well(1, 1, 1), well(2, 1, 1)}, []int{math.MinInt, math.MinInt}, true},
		{"the least and the greatest int", []impl.Member{well(1, 1, 1), well(2, 1, 1)}, []int{math.MinInt, math.MaxInt}, false},
		{"the greatest and the least int of Need", []impl.Member{well(1, 1, math.MaxInt), well(2, 1, math.MinInt)}, []int{1, 1}, true},
	} {
		if isFairOf(c.l, c.shares) != c.want {
			t.Errorf("%s: the test itself is wrong", c.name)
		}
		checkFair(t, c.name, c.l, c.shares, c.want)
	}
}

func TestIsFairOfStrewnShares(t *testing.T) {
	throw := dice()
	fair, unfair := 0, 0
	anyInts := []int{math.MaxInt, math.MinInt, math.MaxInt / 2, 1 << 60, -1 << 60}
	for _, l := range append(goodCrews(), badCrews()...) {
		if len(l) == 0 {
			continue
		}
		for range 12 {
			shares := []int{}
			for _, m := range l {
				shares = append(shares, 2*m.Need+throw(5)-2)
			}
			if throw(5) == 0 {
				shares[throw(len(l))] = anyInts[throw(len(anyInts))]
			}
			want := isFairOf(l, shares)
			checkFair(t, "strewn", l, shares, want)
			checkFair(t, "one too few", l, shares[1:], false)
			checkFair(t, "one too many", l, append(slices.Clone(shares), shares[0]), false)
			if want {
				fair++
			} else {
				unfair++
			}
		}
	}
	if fair < 500 || unfair < 500 {
		t.Errorf("%d shares are fair, %d are not", fair, unfair)
	}
}

func TestSumOf(t *testing.T) {
	for _, c := range []struct {
		name string
		l    []int
		want int
	}{
		{"some", []int{3, -4, 7}, 6},
		{"none", nil, 0},
		{"none, empty", []int{}, 0},
		{"one", []int{5}, 5},
		{"0", []int{0, 0}, 0},
		{"the greatest that counts", []int{10000}, 10000},
		{"one more", []int{10001}, 10000},
		{"one less", []int{9999}, 9999},
		{"the least that counts", []int{-10000}, -10000},
		{"one below", []int{-10001}, -10000},
		{"one above", []int{-9999}, -9999},
		{"beyond both", []int{99999, -99999, 5}, 5},
		{"the greatest int", []int{math.MaxInt, 1}, 10001},
		{"the least int", []int{math.MinInt, -1}, -10001},
		{"the greatest and the least int", []int{math.MaxInt, math.MinInt, 3}, 3},
		{"a sum that is more than one number may be", []int{9000, 9000, 9000}, 27000},
		{"a sum that is less than one number may be", []int{-9000, -9000}, -18000},
		{"very many", slices.Repeat([]int{20000}, 5000), 50000000},
		{"very many that are the least int", slices.Repeat([]int{math.MinInt}, 5000), -50000000},
	} {
		if got := impl.SumOf(c.l); got != c.want {
			t.Errorf("%s: SumOf is %d, not %d", c.name, got, c.want)
		}
	}
	for n := -10010; n <= 10010; n++ {
		if got, want := impl.SumOf([]int{n, 1}), max(-10000, min(n, 10000))+1; got != want {
			t.Errorf("SumOf of %d and 1 is %d, not %d", n, got, want)
		}
	}
}

func TestBadCrewsShareNothing(t *testing.T) {
	for _, l := range badCrews() {
		for _, n := range []int{0, 1, 5, 100, 10000, 10001, -1, math.MaxInt, math.MinInt} {
			checkShares(t, "bad crew", l, n, nil)
			checkCarried(t, "bad crew", l, n, nil)
		}
	}
}

func TestSharesStayAsTheyWere(t *testing.T) {
	for _, members := range append(badCrews()[:14], append(namedCrews, messmates)...) {
		l, shares := guard(members...), guard(4, 6, 2)
		for _, n := range []int{0, 5, 17, 30, 31, 10000, 10001, -1} {
			checkOwnMemory(t, "ShareFood", l, func() []int { return impl.ShareFood(l.list, n) })
			checkOwnMemory(t, "ShareLoad", l, func() []int { return impl.ShareLoad(l.list, n) })
			impl.CanCarry(l.list, n)
		}
		impl.IsFair(l.list, shares.list)
		impl.SumOf(shares.list)
		l.check(t, "the functions of shares")
		shares.check(t, "IsFair and SumOf")
	}
	large := guard(99999, -99999, math.MinInt)
	impl.SumOf(large.list)
	large.check(t, "SumOf")
}

func TestSharesKeepNoState(t *testing.T) {
	l := slices.Clone(messmates)
	first := impl.ShareFood(l, 12)
	l[2].Need = 7
	second := impl.ShareFood(l, 12)
	l[0].Id = 9
	third := impl.ShareFood(l, 12)
	if !slices.Equal(first, []int{4, 6, 2}) || !slices.Equal(second, []int{2, 3, 7}) || len(third) != 0 {
		t.Errorf("while the crew changes, ShareFood is %v, %v and %v", first, second, third)
	}
}
