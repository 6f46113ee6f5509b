package tests

import (
	"math"
	"slices"
	"testing"

	"loop.example/g03008/impl"
)

// guards are four members, of whom the ones that are well watch in turn.
var guards = []impl.Member{well(3, 5, 1), ill(5, 5, 1), well(7, 5, 1), well(9, 5, 1)}

// watchesUntil are the Ids of those who watch at each hour from 0 on, told round
// by round.
func watchesUntil(l []impl.Member, hours int) []int {
	watches := []int{}
	for len(watches) < hours && len(healthyOf(l)) > 0 {
		watches = append(watches, idsOf(healthyOf(l))...)
	}
	return watches[:min(hours, len(watches))]
}

// countedHours is WatchHours, counted hour by hour.
func countedHours(l []impl.Member, id int, from int, hours int) int {
	ids, count := idsOf(healthyOf(l)), 0
	if from < 0 || from > 100000 || hours > 1000 || len(ids) == 0 {
		return 0
	}
	for hour := from; hour < from+hours; hour++ {
		if ids[hour%len(ids)] == id {
			count++
		}
	}
	return count
}

// nextWatchOf is SwapWatch, told by looking at each hour.
func nextWatchOf(l []impl.Member, hour int, id int) int {
	ids := idsOf(healthyOf(l))
	if hour < 0 || hour > 100000 || len(ids) == 0 {
		return -1
	}
	for next := hour + 1; next <= hour+100; next++ {
		if ids[next%len(ids)] == id {
			return next
		}
	}
	return -1
}

// sleepOf is SleepHours, told by looking at each hour.
func sleepOf(l []impl.Member, id int, hour int) int {
	ids := idsOf(healthyOf(l))
	if hour < 0 || hour > 100000 || len(ids) == 0 {
		return -1
	}
	for last := hour; last >= max(0, hour-100); last-- {
		if ids[last%len(ids)] == id {
			return nextWatchOf(l, last, id) - last - 1
		}
	}
	return -1
}

func checkHours(t *testing.T, name string, l []impl.Member, id int, from int, hours int, want int) {
	t.Helper()
	if got := impl.WatchHours(l, id, from, hours); got != want {
		t.Errorf("%s: WatchHours(%v, %d, %d, %d) is %d, not %d", name, l, id, from, hours, got, want)
	}
}

func checkGap(t *testing.T, name string, l []impl.Member, from int, hours int, want int) {
	t.Helper()
	if got := impl.FairGap(l, from, hours); got != want {
		t.Errorf("%s: FairGap(%v, %d, %d) is %d, not %d", name, l, from, hours, got, want)
	}
}

func checkSwap(t *testing.T, name string, l []impl.Member, hour int, id int, want int) {
	t.Helper()
	if got := impl.SwapWatch(l, hour, id); got != want {
		t.Errorf("%s: SwapWatch(%v, %d, %d) is %d, not %d", name, l, hour, id, got, want)
	}
}

func checkSleep(t *testing.T, name string, l []impl.Member, id int, hour int, want int) {
	t.Helper()
	if got := impl.SleepHours(l, id, hour); got != want {
		t.Errorf("%s: SleepHours(%v, %d, %d) is %d, not %d", name, l, id, hour, got, want)
	}
}

// edgesOfHours are hours at which something ends, and others that are none.
var edgesOfHours = []int{math.MinInt, math.MinInt + 1, -100001, -101, -100, -8, -1, 0, 1, 2, 7, 8, 9, 99, 100, 101, 839, 840, 841, 99899, 99900, 99999, 100000, 100001, 100101, 1 << 32, math.MaxInt - 100, math.MaxInt - 1, math.MaxInt}

func TestWatchOf(t *testing.T) {
	for _, c := range []struct {
		name string
		l    []impl.Member
		hour int
		want int
	}{
		{"at the first hour", guards, 0, 3},
		{"at the second hour, behind one who is ill", guards, 1, 7},
		{"at the last hour of a round", guards, 2, 9},
		{"at the first hour of the next round", guards, 3, 3},
		{"at an hour much later", guards, 100, 7},
		{"at a multiple of those who are well", guards, 99999, 3},
		{"beyond the last hour", guards, 100001, 9},
		{"at the greatest int", guards, math.MaxInt, 7},
		{"at the hour before the first", guards, -1, 0},
		{"a round before the first hour", guards, -3, 0},
		{"at the least int", guards, math.MinInt, 0},
		{"a crew of one", guards[:1], 0, 3},
		{"a crew of one, later", guards[:1], 77, 3},
		{"a crew of one, before the first hour", guards[:1], -1, 0},
		{"a crew of one who is ill", guards[1:2], 0, 0},
		{"one well, behind one who is ill", guards[1:3], 5, 7},
		{"one well, before one who is ill", guards[:2], 5, 3},
		{"a crew of eight", strong, 7, 99},
		{"a crew of eight, the next round", strong, 8, 1},
		{"a crew of eight, of whom two are ill", full, 5, 99},
		{"a crew of eight, of whom two are ill, the next round", full, 6, 3},
		{"all ill", sick, 0, 0},
		{"all ill, later", sick, 4, 0},
		{"nobody", nil, 0, 0},
		{"nobody, empty", []impl.Member{}, 3, 0},
		{"no crew, as it is not in order", []impl.Member{well(2, 5, 1), well(1, 5, 1)}, 0, 0},
		{"no crew, as one eats nothing", []impl.Member{well(1, 5, 1), well(2, 5, 0)}, 0, 0},
	} {
		if got := impl.WatchOf(c.l, c.hour); got != c.want {
			t.Errorf("%s: WatchOf(%v, %d) is %d, not %d", c.name, c.l, c.hour, got, c.want)
		}
	}
}

func TestWatchesGoRound(t *testing.T) {
	for l := range everyIllness() {
		watches := watchesUntil(l, 60)
		for hour := range 60 {
			want := 0
			if len(watches) > 0 {
				want = watches[hour]
			}
			if got := impl.WatchOf(l, hour); got != want {
				t.Errorf("WatchOf(%v, %d) is %d, not %d", l, hour, got, want)
			}
		}
		// All have watched equally long when so many hours have passed.
		for _, rounds := range []int{1, 2, 1000, 1 << 40} {
			hour := rounds * max(1, len(healthyOf(l)))
			for more := range 9 {
				if impl.WatchOf(l, hour+more) != impl.WatchOf(l, more) {
					t.Errorf("WatchOf(%v, %d) is not as at the hour %d", l, hour+more, more)
				}
			}
		}
	}
}

func TestWatchHours(t *testing.T) {
	for _, c := range []struct {
		name            string
		l               []impl.Member
		id, from, hours int
		want            int
	}{
		{"two rounds", guards, 7, 0, 6, 2},
		{"two rounds, and an hour more of another one", guards, 7, 0, 7, 2},
		{"two rounds, and an hour more of its own", guards, 3, 0, 7, 3},
		{"from its own hour on", guards, 7, 1, 4, 2},
		{"from behind its own hour on", guards, 7, 2, 4, 1},
		{"until just before its hour", guards, 9, 0, 2, 0},
		{"until its hour", guards, 9, 0, 3, 1},
		{"fewer hours than members", guards, 3, 1, 2, 0},
		{"an hour, its own", guards, 9, 2, 1, 1},
		{"an hour, another one's", guards, 9, 3, 1, 0},
		{"no hours", guards, 3, 0, 0, 0},
		{"no hours, of one who is alone", guards[:1], 3, 7, 0, 0},
		{"hours below 0", guards, 3, 0, -3, 0},
		{"as many hours as may be", guards, 3, 0, 1000, 334},
		{"as many hours as may be, of another one", guards, 7, 0, 1000, 333},
		{"an hour too many", guards, 3, 0, 1001, 0},
		{"from the last hour on", guards, 7, 100000, 1, 1},
		{"from the last hour on, as many as may be", guards, 7, 100000, 1000, 334},
		{"from behind the last hour on", guards, 9, 100001, 1, 0},
		{"from before the first hour on", guards, 7, -1, 6, 0},
		{"one who is alone", guards[:1], 3, 5, 1000, 1000},
		{"one who is alone, as others are ill", guards[:2], 3, 5, 9, 9},
		{"one who is ill", guards, 5, 0, 99, 0},
		{"one who is ill and alone", guards[1:2], 5, 0, 99, 0},
		{"nobody's Id", guards, 4, 0, 99, 0},
		{"an Id of 0", guards, 0, 0, 99, 0},
		{"an Id below 0", guards, -3, 0, 99, 0},
		{"the greatest int of an Id", guards, math.MaxInt, 0, 99, 0},
		{"the least int of an Id", guards, math.MinInt, 0, 99, 0},
		{"one of eight", strong, 99, 1, 16, 2},
		{"one of eight, fewer hours than members", strong, 99, 0, 7, 0},
		{"of all ill, one of them", sick, 30, 0, 99, 0},
		{"of all ill, an Id of 0", sick, 0, 0, 99, 0},
		{"of nobody", nil, 3, 0, 99, 0},
		{"of nobody, an Id of 0", nil, 0, 0, 99, 0},
		{"the greatest int of from", guards, 3, math.MaxInt, 9, 0},
		{"the least int of from", guards, 3, math.MinInt, 9, 0},
		{"the greatest int of hours", guards, 3, 0, math.MaxInt, 0},
		{"the least int of hours", guards, 3, 0, math.MinInt, 0},
		{"the greatest int of both", guards, 3, math.MaxInt, math.MaxInt, 0},
	} {
		checkHours(t, c.name, c.l, c.id, c.from, c.hours, c.want)
	}
}

func TestFairGap(t *testing.T) {
	for _, c := range []struct {
		name        string
		l           []impl.Member
		from, hours int
		want        int
	}{
		{"two rounds", guards, 0, 6, 0},
		{"two rounds and an hour", guards, 0, 7, 1},
		{"two rounds and two hours", guards, 0, 8, 1},
		{"rounds that begin later", guards, 2, 6, 0},
		{"rounds and an hour that begin later", guards, 2, 7, 1},
		{"an hour", guards, 5, 1, 1},
		{"no hours", guards, 5, 0, 0},
		{"hours below 0", guards, 5, -1, 0},
		{"as many hours as may be", guards, 0, 1000, 1},
		{"an hour too many", guards, 0, 1001, 0},
		{"from the last hour on", guards, 100000, 1, 1},
		{"from behind the last hour on", guards, 100001, 1, 0},
		{"from before the first hour on", guards, -1, 1, 0},
		{"one who is alone", guards[:1], 0, 7, 0},
		{"one who is alone, as others are ill", guards[:2], 0, 1, 0},
		{"one who is ill", guards[1:2], 0, 7, 0},
		{"eight", strong, 0, 8, 0},
		{"eight, fewer hours", strong, 0, 7, 1},
		{"all ill", sick, 0, 7, 0},
		{"nobody", nil, 0, 7, 0},
		{"the greatest int of from", guards, math.MaxInt, 7, 0},
		{"the least int of from", guards, math.MinInt, 7, 0},
		{"the greatest int of hours", guards, 0, math.MaxInt, 0},
		{"the least int of hours", guards, 0, math.MinInt, 0},
	} {
		checkGap(t, c.name, c.l, c.from, c.hours, c.want)
	}
}

func TestSwapWatch(t *testing.T) {
	for _, c := range []struct {
		name     string
		l        []impl.Member
		hour, id int
		want     int
	}{
		{"behind its own hour", guards, 1, 7, 4},
		{"behind its own first hour", guards, 0, 3, 3},
		{"behind the hour of another one", guards, 2, 7, 4},
		{"behind the hour before its own", guards, 0, 7, 1},
		{"behind its own hour, much later", guards, 100, 7, 103},
		{"behind the last hour", guards, 100000, 9, 100001},
		{"behind the last hour, its own", guards, 100000, 7, 100003},
		{"behind an hour that is too late", guards, 100001, 9, -1},
		{"behind an hour before the first", guards, -1, 3, -1},
		{"one who is alone", guards[:1], 5, 3, 6},
		{"one who is alone, as others are ill", guards[1:3], 5, 7, 6},
		{"one of eight, its own hour", strong, 7, 99, 15},
		{"one of eight", strong, 8, 99, 15},
		{"one who is ill", guards, 0, 5, -1},
		{"one who is ill and alone", guards[1:2], 0, 5, -1},
		{"nobody's Id", guards, 0, 4, -1},
		{"an Id of 0", guards, 0, 0, -1},
		{"an Id below 0", guards, 0, -3, -1},
		{"the greatest int of an Id", guards, 0, math.MaxInt, -1},
		{"the least int of an Id", guards, 0, math.MinInt, -1},
		{"of all ill, an Id of 0", sick, 0, 0, -1},
		{"of nobody", nil, 0, 3, -1},
		{"of nobody, an Id of 0", nil, 0, 0, -1},
		{"behind the greatest int", guards, math.MaxInt, 7, -1},
		{"behind the least int", guards, math.MinInt, 7, -1},
	} {
		checkSwap(t, c.name, c.l, c.hour, c.id, c.want)
	}
}

func TestSleepHours(t *testing.T) {
	for _, c := range []struct {
		name     string
		l        []impl.Member
		id, hour int
		want     int
	}{
		{"behind its watch", guards, 7, 3, 2},
		{"at its watch", guards, 7, 1, 2},
		{"before its next watch", guards, 7, 6, 2},
		{"before its first watch", guards, 7, 0, -1},
		{"just before its first watch", guards, 9, 1, -1},
		{"at its first watch", guards, 9, 2, 2},
		{"at the first hour, its own", guards, 3, 0, 2},
		{"at the last hour, its own", guards, 7, 100000, 2},
		{"at the last hour", guards, 9, 100000, 2},
		{"behind the last hour", guards, 7, 100001, -1},
		{"before the first hour", guards, 3, -1, -1},
		{"one who is alone", guards[:1], 3, 8, 0},
		{"one who is alone, at the first hour", guards[:1], 3, 0, 0},
		{"one who is alone, as others are ill", guards[1:3], 7, 8, 0},
		{"one of two", pair, 2, 8, 1},
		{"one of eight", strong, 99, 40, 7},
		{"one of eight, before its first watch", strong, 99, 6, -1},
		{"one who is ill", guards, 5, 9, -1},
		{"one who is ill and alone", guards[1:2], 5, 9, -1},
		{"nobody's Id", guards, 4, 9, -1},
		{"an Id of 0", guards, 0, 9, -1},
		{"an Id below 0", guards, -3, 9, -1},
		{"the greatest int of an Id", guards, math.MaxInt, 9, -1},
		{"the least int of an Id", guards, math.MinInt, 9, -1},
		{"of all ill, an Id of 0", sick, 0, 9, -1},
		{"of nobody", nil, 3, 9, -1},
		{"of nobody, an Id of 0", nil, 0, 9, -1},
		{"at the greatest int", guards, 7, math.MaxInt, -1},
		{"at the least int", guards, 7, math.MinInt, -1},
	} {
		checkSleep(t, c.name, c.l, c.id, c.hour, c.want)
	}
}

func TestNobodyWatchesMoreThanOneHourMoreThanAnotherOne(t *testing.T) {
	throw := dice()
	for l := range everyIllness() {
		for _, from := range []int{0, 1, throw(1000), 99999, 100000} {
			for _, hours := range []int{0, 1, 2, 3, 5, 7, 8, 9, 24, 1000, throw(1001)} {
				counts, sum := []int{}, 0
				for _, m := range l {
					count := countedHours(l, m.Id, from, hours)
					checkHours(t, "each member", l, m.Id, from, hours, count)
					sum += count
					if !m.Ill {
						counts = append(counts, count)
					}
				}
				if len(counts) == 0 {
					checkGap(t, "all ill", l, from, hours, 0)
					continue
				}
				gap := slices.Max(counts) - slices.Min(counts)
				checkGap(t, "each crew", l, from, hours, gap)
				if gap > 1 || sum != hours {
					t.Errorf("of %v, who are well watch %v of %d hours", l, counts, hours)
				}
			}
		}
	}
}

func TestWatchesAtEachHour(t *testing.T) {
	throw := dice()
	for l := range everyIllness() {
		ids := append(idsOf(l), 0, -1, 1, 100)
		for _, hour := range []int{0, 1, 2, 3, 4, 5, 6, 7, 8, 9, 15, 16, 17, 100, throw(100000), 99999, 100000} {
			for _, id := range ids {
				checkSwap(t, "each hour", l, hour, id, nextWatchOf(l, hour, id))
				checkSleep(t, "each hour", l, id, hour, sleepOf(l, id, hour))
			}
		}
	}
}

func TestWatchesAtTheEdges(t *testing.T) {
	for _, l := range namedCrews {
		for _, hour := range edgesOfHours {
			for _, id := range append(idsOf(l), 0, math.MaxInt, math.MinInt) {
				checkSwap(t, "edges", l, hour, id, nextWatchOf(l, hour, id))
				checkSleep(t, "edges", l, id, hour, sleepOf(l, id, hour))
				for _, hours := range []int{math.MinInt, -1, 0, 1, 9, 999, 1000, 1001, 1 << 32, math.MaxInt} {
					checkHours(t, "edges", l, id, hour, hours, countedHours(l, id, hour, hours))
				}
			}
		}
	}
}

func TestBadCrewsDoNotWatch(t *testing.T) {
	for _, l := range badCrews() {
		for _, hour := range []int{0, 1, 5, 100000} {
			if got := impl.WatchOf(l, hour); got != 0 {
				t.Errorf("WatchOf(%v, %d) is %d", l, hour, got)
			}
			for _, id := range append(idsOf(l), 0, 1) {
				checkHours(t, "bad crew", l, id, hour, 24, 0)
				checkSwap(t, "bad crew", l, hour, id, -1)
				checkSleep(t, "bad crew", l, id, hour, -1)
			}
			checkGap(t, "bad crew", l, hour, 25, 0)
		}
	}
}

func TestWatchesKeepTheirCrews(t *testing.T) {
	for _, members := range append(badCrews()[:14], namedCrews...) {
		l := guard(members...)
		for _, id := range append(idsOf(members), 0) {
			for _, hour := range []int{-1, 0, 5, 100000} {
				impl.WatchOf(l.list, hour)
				impl.WatchHours(l.list, id, hour, 24)
				impl.FairGap(l.list, hour, 25)
				impl.SwapWatch(l.list, hour, id)
				impl.SleepHours(l.list, id, hour)
				l.check(t, "the functions of watches")
			}
		}
	}
}

func TestWatchesKeepNoState(t *testing.T) {
	l := slices.Clone(guards)
	first := impl.WatchHours(l, 7, 0, 4)
	l[0].Ill = true
	second := impl.WatchHours(l, 7, 0, 4)
	l[2].Id = 8
	third := impl.WatchHours(l, 7, 0, 4)
	if first != 1 || second != 2 || third != 0 {
		t.Errorf("while the crew changes, WatchHours is %d, %d and %d", first, second, third)
	}
}
