package tests

import (
	"math"
	"testing"

	"loop.example/g03008/impl"
)

// allTides are all that are valid.
func allTides() []impl.Tide {
	tides := []impl.Tide{}
	for high := range 12 {
		for wet := range 6 {
			tides = append(tides, impl.Tide{High: high, Wet: wet})
		}
	}
	return tides
}

// badTides are not valid. Some would be if they were taken modulo TideHours.
var badTides = []impl.Tide{
	{High: -1, Wet: 2},
	{High: -1, Wet: 0},
	{High: -12, Wet: 2},
	{High: 12, Wet: 2},
	{High: 12, Wet: 0},
	{High: 13, Wet: 2},
	{High: 24, Wet: 2},
	{High: 3, Wet: -1},
	{High: 0, Wet: -1},
	{High: 3, Wet: -6},
	{High: 3, Wet: 6},
	{High: 11, Wet: 6},
	{High: 3, Wet: 11},
	{High: 3, Wet: 12},
	{High: 3, Wet: 17},
	{High: -1, Wet: -1},
	{High: 12, Wet: 6},
	{High: math.MaxInt, Wet: 2},
	{High: math.MinInt, Wet: 2},
	{High: 3, Wet: math.MaxInt},
	{High: 3, Wet: math.MinInt},
	{High: math.MinInt, Wet: math.MaxInt},
}

// isWetOf tells whether an hour is under water by the hours of high water, of
// which there is one before the hour 0, too.
func isWetOf(t impl.Tide, hour int) bool {
	last := hour - hour%12
	for _, high := range []int{last - 12 + t.High, last + t.High, last + 12 + t.High} {
		if high-t.Wet <= hour && hour <= high+t.Wet {
			return true
		}
	}
	return false
}

// firstDryOf is NextDry of a valid tide and hour.
func firstDryOf(t impl.Tide, hour int) int {
	for isWetOf(t, hour) {
		hour++
	}
	return hour
}

// canCrossOf is CanCross of a valid tide.
func canCrossOf(t impl.Tide, hour int, long int) bool {
	if long < 0 || long > 100 || hour < 0 || hour > 100000 {
		return false
	}
	for h := hour; h <= hour+long; h++ {
		if h > 100000 || isWetOf(t, h) {
			return false
		}
	}
	return true
}

// nextCrossingOf is NextCrossing of a valid tide.
func nextCrossingOf(t impl.Tide, hour int, long int) int {
	if hour < 0 || hour > 90000 {
		return -1
	}
	for h := hour; h <= hour+12; h++ {
		if canCrossOf(t, h, long) {
			return h
		}
	}
	return -1
}

func TestTideHours(t *testing.T) {
	if impl.TideHours != 12 {
		t.Errorf("TideHours is %d", impl.TideHours)
	}
}

func TestIsTide(t *testing.T) {
	for high := -15; high <= 30; high++ {
		for wet := -15; wet <= 30; wet++ {
			want := 0 <= high && high <= 11 && 0 <= wet && wet <= 5
			if got := impl.IsTide(impl.Tide{High: high, Wet: wet}); got != want {
				t.Errorf("IsTide(%d, %d) is %v", high, wet, got)
			}
		}
	}
	for _, x := range badTides {
		if impl.IsTide(x) {
			t.Errorf("IsTide(%v) is true", x)
		}
	}
}

func TestIsDry(t *testing.T) {
	// Each text has an hour for each character, with a w where the sand is wet.
	for _, c := range []struct {
		tide  impl.Tide
		hours string
	}{
		{impl.Tide{High: 3, Wet: 2}, ".wwwww.......wwwww.......wwwww"},
		{impl.Tide{High: 3, Wet: 0}, "...w...........w...........w.."},
		{impl.Tide{High: 0, Wet: 0}, "w...........w...........w....."},
		{impl.Tide{High: 11, Wet: 0}, "...........w...........w......"},
		{impl.Tide{High: 0, Wet: 2}, "www.......wwwww.......wwwww..."},
		{impl.Tide{High: 11, Wet: 2}, "ww.......wwwww.......wwwww...."},
		{impl.Tide{High: 6, Wet: 5}, ".wwwwwwwwwww.wwwwwwwwwww.wwwww"},
		{impl.Tide{High: 0, Wet: 5}, "wwwwww.wwwwwwwwwww.wwwwwwwwwww"},
		{impl.Tide{High: 11, Wet: 5}, "wwwww.wwwwwwwwwww.wwwwwwwwwww."},
		{impl.Tide{High: 5, Wet: 5}, "wwwwwwwwwww.wwwwwwwwwww.wwwwww"},
	} {
		for hour, sign := range c.hours {
			if got := impl.IsDry(c.tide, hour); got != (sign == '.') {
				t.Errorf("IsDry(%v, %d) is %v", c.tide, hour, got)
			}
		}
	}
	for _, x := range allTides() {
		for hour := range 100 {
			checkDry(t, x, hour)
		}
		for hour := 99960; hour <= 100000; hour++ {
			checkDry(t, x, hour)
		}
		for hour := 0; hour <= 100000; hour += 97 {
			checkDry(t, x, hour)
		}
		for _, hour := range []int{-1, -2, -6, -12, -24, 100001, 100002, 100006, 100012, 1 << 32, math.MaxInt, math.MaxInt - 6, math.MinInt, math.MinInt + 6} {
			if impl.IsDry(x, hour) {
				t.Errorf("IsDry(%v, %d) is true", x, hour)
			}
		}
	}
}

func checkDry(t *testing.T, x impl.Tide, hour int) {
	t.Helper()
	if got := impl.IsDry(x, hour); got == isWetOf(x, hour) {
		t.Errorf("IsDry(%v, %d) is %v", x, hour, got)
	}
}

func TestNextDry(t *testing.T) {
	for _, c := range []struct {
		tide       impl.Tide
		hour, want int
	}{
		{impl.Tide{High: 3, Wet: 2}, 0, 0},
		{impl.Tide{High: 3, Wet: 2}, 1, 6},
		{impl.Tide{High: 3, Wet: 2}, 5, 6},
		{impl.Tide{High: 3, Wet: 2}, 6, 6},
		{impl.Tide{High: 3, Wet: 2}, 13, 18},
		{impl.Tide{High: 0, Wet: 5}, 0, 6},
		{impl.Tide{High: 0, Wet: 5}, 6, 6},
		{impl.Tide{High: 0, Wet: 5}, 7, 18},
		{impl.Tide{High: 11, Wet: 5}, 0, 5},
		{impl.Tide{High: 11, Wet: 2}, 0, 2},
		{impl.Tide{High: 0, Wet: 0}, 0, 1},
		// The hour 100000 is the fourth one behind the hour 99996, at which a tide begins.
		{impl.Tide{High: 4, Wet: 0}, 100000, 100001},
		{impl.Tide{High: 5, Wet: 2}, 100000, 100004},
		{impl.Tide{High: 9, Wet: 5}, 100000, 100011},
		{impl.Tide{High: 8, Wet: 3}, 100000, 100000},
		{impl.Tide{High: 8, Wet: 5}, 99999, 100010},
		{impl.Tide{High: 3, Wet: 2}, -1, -1},
		{impl.Tide{High: 3, Wet: 2}, 100001, -1},
		{impl.Tide{High: 3, Wet: 2}, math.MaxInt, -1},
		{impl.Tide{High: 3, Wet: 2}, math.MinInt, -1},
	} {
		if got := impl.NextDry(c.tide, c.hour); got != c.want {
			t.Errorf("NextDry(%v, %d) is %d, not %d", c.tide, c.hour, got, c.want)
		}
	}
	for _, x := range allTides() {
		for _, first := range []int{0, 50000, 89990, 99970} {
			for hour := first; hour <= first+30; hour++ {
				if got, want := impl.NextDry(x, hour), firstDryOf(x, hour); got != want {
					t.Errorf("NextDry(%v, %d) is %d, not %d", x, hour, got, want)
				}
			}
		}
		for _, hour := range []int{-1, -12, 100001, 100013, math.MaxInt, math.MinInt} {
			if got := impl.NextDry(x, hour); got != -1 {
				t.Errorf("NextDry(%v, %d) is %d", x, hour, got)
			}
		}
	}
}

func TestCanCross(t *testing.T) {
	for _, c := range []struct {
		tide       impl.Tide
		hour, long int
		want       bool
	}{
		{impl.Tide{High: 3, Wet: 2}, 6, 6, true},
		{impl.Tide{High: 3, Wet: 2}, 6, 7, false},
		{impl.Tide{High: 3, Wet: 2}, 7, 5, true},
		{impl.Tide{High: 3, Wet: 2}, 7, 6, false},
		{impl.Tide{High: 3, Wet: 2}, 5, 6, false},
		{impl.Tide{High: 3, Wet: 2}, 5, 0, false},
		{impl.Tide{High: 3, Wet: 2}, 12, 0, true},
		{impl.Tide{High: 3, Wet: 2}, 0, 0, true},
		{impl.Tide{High: 3, Wet: 2}, 0, 1, false},
		{impl.Tide{High: 0, Wet: 0}, 1, 10, true},
		{impl.Tide{High: 0, Wet: 0}, 1, 11, false},
		{impl.Tide{High: 0, Wet: 5}, 6, 0, true},
		{impl.Tide{High: 0, Wet: 5}, 6, 1, false},
		{impl.Tide{High: 3, Wet: 2}, 6, 12, false},
		{impl.Tide{High: 3, Wet: 2}, 6, 100, false},
		{impl.Tide{High: 3, Wet: 2}, 6, 101, false},
		{impl.Tide{High: 3, Wet: 2}, 6, -1, false},
		{impl.Tide{High: 3, Wet: 2}, 6, math.MaxInt, false},
		{impl.Tide{High: 3, Wet: 2}, 6, math.MinInt, false},
		{impl.Tide{High: 3, Wet: 2}, -1, 0, false},
		{impl.Tide{High: 3, Wet: 2}, -1, 1, false},
		{impl.Tide{High: 9, Wet: 0}, 100000, 0, true},
		{impl.Tide{High: 9, Wet: 0}, 100000, 1, false},
		{impl.Tide{High: 9, Wet: 0}, 99995, 5, true},
		{impl.Tide{High: 9, Wet: 0}, 99995, 6, false},
		{impl.Tide{High: 9, Wet: 0}, 100001, 0, false},
		{impl.Tide{High: 3, Wet: 2}, math.MaxInt, 5, false},
		{impl.Tide{High: 3, Wet: 2}, math.MinInt, 5, false},
	} {
		if got := impl.CanCross(c.tide, c.hour, c.long); got != c.want {
			t.Errorf("CanCross(%v, %d, %d) is %v", c.tide, c.hour, c.long, got)
		}
	}
}

func TestNextCrossing(t *testing.T) {
	for _, c := range []struct {
		tide             impl.Tide
		hour, long, want int
	}{
		{impl.Tide{High: 3, Wet: 2}, 0, 0, 0},
		{impl.Tide{High: 3, Wet: 2}, 0, 1, 6},
		{impl.Tide{High: 3, Wet: 2}, 6, 6, 6},
		{impl.Tide{High: 3, Wet: 2}, 7, 6, 18},
		{impl.Tide{High: 3, Wet: 2}, 7, 5, 7},
		{impl.Tide{High: 3, Wet: 2}, 0, 7, -1},
		{impl.Tide{High: 3, Wet: 2}, 6, 7, -1},
		{impl.Tide{High: 0, Wet: 0}, 1, 10, 1},
		{impl.Tide{High: 0, Wet: 0}, 2, 10, 13},
		{impl.Tide{High: 0, Wet: 0}, 2, 11, -1},
		{impl.Tide{High: 0, Wet: 5}, 7, 0, 18},
		{impl.Tide{High: 0, Wet: 5}, 7, 1, -1},
		{impl.Tide{High: 3, Wet: 2}, 0, -1, -1},
		{impl.Tide{High: 3, Wet: 2}, 0, 100, -1},
		{impl.Tide{High: 3, Wet: 2}, 0, 101, -1},
		{impl.Tide{High: 3, Wet: 2}, 0, math.MaxInt, -1},
		{impl.Tide{High: 3, Wet: 2}, 0, math.MinInt, -1},
		{impl.Tide{High: 3, Wet: 2}, 90000, 0, 90000},
		{impl.Tide{High: 2, Wet: 2}, 90000, 6, 90005},
		{impl.Tide{High: 3, Wet: 2}, 90001, 0, -1},
		{impl.Tide{High: 9, Wet: 2}, 90001, 0, -1},
		{impl.Tide{High: 3, Wet: 2}, -1, 0, -1},
		{impl.Tide{High: 3, Wet: 2}, math.MaxInt, 0, -1},
		{impl.Tide{High: 3, Wet: 2}, math.MaxInt - 12, 0, -1},
		{impl.Tide{High: 3, Wet: 2}, math.MinInt, 0, -1},
	} {
		if got := impl.NextCrossing(c.tide, c.hour, c.long); got != c.want {
			t.Errorf("NextCrossing(%v, %d, %d) is %d, not %d", c.tide, c.hour, c.long, got, c.want)
		}
	}
}

func TestCrossingsOfEveryTide(t *testing.T) {
	for _, x := range allTides() {
		for _, first := range []int{-3, 49990, 89990, 99970} {
			for hour := first; hour <= first+40; hour++ {
				for _, long := range []int{-1, 0, 1, 2, 3, 4, 5, 6, 7, 8, 9, 10, 11, 12, 99, 100, 101} {
					checkCrossing(t, x, hour, long)
				}
			}
		}
	}
}

func checkCrossing(t *testing.T, x impl.Tide, hour int, long int) {
	t.Helper()
	if got, want := impl.CanCross(x, hour, long), canCrossOf(x, hour, long); got != want {
		t.Errorf("CanCross(%v, %d, %d) is %v", x, hour, long, got)
	}
	if got, want := impl.NextCrossing(x, hour, long), nextCrossingOf(x, hour, long); got != want {
		t.Errorf("NextCrossing(%v, %d, %d) is %d, not %d", x, hour, long, got, want)
	}
}

func TestACrossingStaysDry(t *testing.T) {
	longest := 0
	for _, x := range allTides() {
		for hour := range 40 {
			for long := range 14 {
				start := impl.NextCrossing(x, hour, long)
				for h := start; start >= 0 && h <= start+long; h++ {
					if isWetOf(x, h) || !impl.IsDry(x, h) {
						t.Errorf("the crossing of %d hours from %d on is wet at %d, with %v", long, start, h, x)
					}
				}
				// A crossing is possible just if it is no longer than the sand is dry.
				if possible := long < impl.DryHours(x); possible != (start >= 0) {
					t.Errorf("NextCrossing(%v, %d, %d) is %d", x, hour, long, start)
				}
				if start > hour+12 || 0 <= start && start < hour {
					t.Errorf("NextCrossing(%v, %d, %d) is %d", x, hour, long, start)
				}
				longest = max(longest, start-hour)
			}
		}
	}
	if longest != 11 {
		t.Errorf("one waits up to %d hours for a crossing", longest)
	}
}

func TestDryHours(t *testing.T) {
	for _, x := range allTides() {
		dry := 0
		for hour := range 12 {
			if !isWetOf(x, hour) {
				dry++
			}
		}
		if got := impl.DryHours(x); got != dry || got != 11-2*x.Wet {
			t.Errorf("DryHours(%v) is %d, not %d", x, got, dry)
		}
	}
}

func TestBadTides(t *testing.T) {
	for _, x := range badTides {
		for hour := -2; hour < 30; hour++ {
			for _, long := range []int{-1, 0, 1, 5, 100, 101, math.MaxInt, math.MinInt} {
				if impl.CanCross(x, hour, long) {
					t.Errorf("CanCross(%v, %d, %d) is true", x, hour, long)
				}
				if got := impl.NextCrossing(x, hour, long); got != -1 {
					t.Errorf("NextCrossing(%v, %d, %d) is %d", x, hour, long, got)
				}
			}
		}
		for _, hour := range []int{math.MinInt, -1, 0, 1, 2, 3, 4, 5, 6, 7, 8, 9, 10, 11, 12, 90000, 100000, 100001, math.MaxInt} {
			if impl.IsDry(x, hour) {
				t.Errorf("IsDry(%v, %d) is true", x, hour)
			}
			if got := impl.NextDry(x, hour); got != -1 {
				t.Errorf("NextDry(%v, %d) is %d", x, hour, got)
			}
		}
		if got := impl.DryHours(x); got != 0 {
			t.Errorf("DryHours(%v) is %d", x, got)
		}
	}
}
