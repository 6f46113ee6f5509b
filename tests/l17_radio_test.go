package tests

import (
	"math"
	"testing"

	"loop.example/g03008/impl"
)

// edgeHours are hours at which something changes, and others that are none.
var edgeHours = []int{math.MinInt, math.MinInt + 1, -100000, -13, -12, -7, -6, -1, 0, 1, 5, 6, 7, 11, 12, 13, 5999, 6000, 6005, 6006, 6011, 6012, 50000, 93994, 93995, 93999, 94000, 99986, 99987, 99988, 99989, 99993, 99994, 99995, 99999, 100000, 100001, 100012, 1 << 32, math.MaxInt - 6, math.MaxInt}

var edgeMissed = []int{math.MinInt, -1, 0, 1, 2, 3, 999, 1000, 1001, 1 << 32, math.MaxInt}

// isRadioOf is IsRadio.
func isRadioOf(r impl.Radio) bool {
	return 0 <= r.Last && r.Last <= 100000 && 0 <= r.Missed && r.Missed <= 1000
}

// isHourOf tells whether a valid radio can hear a call at an hour.
func isHourOf(r impl.Radio, hour int) bool {
	return r.Last <= hour && hour <= 100000
}

// checkRadio checks all functions.
func checkRadio(t *testing.T, r impl.Radio, hour int) {
	t.Helper()
	valid := isRadioOf(r)
	if got := impl.IsRadio(r); got != valid {
		t.Errorf("IsRadio(%v) is %v", r, got)
	}
	if got := impl.IsAlarm(r); got != (valid && r.Missed > 1) {
		t.Errorf("IsAlarm(%v) is %v", r, got)
	}
	heard, missed := r, r
	ok := valid && isHourOf(r, hour)
	if ok {
		heard = impl.Radio{Last: hour}
	}
	if got, gotOk := impl.Hear(r, hour); gotOk != ok || got != heard {
		t.Errorf("Hear(%v, %d) is %v and %v", r, hour, got, gotOk)
	}
	if ok {
		missed.Missed = callsOf(r.Last, hour)
		if ok = missed.Missed <= 1000; !ok {
			missed = r
		}
	}
	if got, gotOk := impl.Miss(r, hour); gotOk != ok || got != missed {
		t.Errorf("Miss(%v, %d) is %v and %v, not %v and %v", r, hour, got, gotOk, missed, ok)
	}
	alarm := -1
	if valid {
		alarm = r.Last + 12
	}
	if got := impl.AlarmHour(r); got != alarm {
		t.Errorf("AlarmHour(%v) is %d, not %d", r, got, alarm)
	}
}

// callsOf counts the calls that are due behind an hour, until another one.
func callsOf(last int, hour int) int {
	calls := 0
	for due := last + 6; due <= hour; due += 6 {
		calls++
	}
	return calls
}

func TestCallHours(t *testing.T) {
	if impl.CallHours != 6 {
		t.Errorf("CallHours is %d", impl.CallHours)
	}
}

func TestIsRadioAndIsAlarm(t *testing.T) {
	cases := []struct {
		r              impl.Radio
		isRadio, alarm bool
	}{
		{impl.Radio{}, true, false},
		{impl.Radio{Last: 20, Missed: 1}, true, false},
		{impl.Radio{Last: 20, Missed: 2}, true, true},
		{impl.Radio{Last: 20, Missed: 3}, true, true},
		{impl.Radio{Last: 20, Missed: 1000}, true, true},
		{impl.Radio{Last: 20, Missed: 1001}, false, false},
		{impl.Radio{Last: 20, Missed: -1}, false, false},
		{impl.Radio{Last: 100000, Missed: 2}, true, true},
		{impl.Radio{Last: 100001, Missed: 2}, false, false},
		{impl.Radio{Last: 0, Missed: 2}, true, true},
		{impl.Radio{Last: -1, Missed: 2}, false, false},
		{impl.Radio{Last: -6, Missed: 0}, false, false},
		{impl.Radio{Last: math.MaxInt, Missed: math.MaxInt}, false, false},
		{impl.Radio{Last: math.MinInt, Missed: 2}, false, false},
		{impl.Radio{Last: 20, Missed: math.MaxInt}, false, false},
		{impl.Radio{Last: 20, Missed: math.MinInt}, false, false},
	}
	for _, c := range cases {
		if got := impl.IsRadio(c.r); got != c.isRadio {
			t.Errorf("IsRadio(%v) is %v", c.r, got)
		}
		if got := impl.IsAlarm(c.r); got != c.alarm {
			t.Errorf("IsAlarm(%v) is %v", c.r, got)
		}
	}
}

func TestHear(t *testing.T) {
	cases := []struct {
		name string
		r    impl.Radio
		hour int
		want impl.Radio
		ok   bool
	}{
		{"in time", impl.Radio{Last: 20}, 26, impl.Radio{Last: 26}, true},
		{"at the same hour", impl.Radio{Last: 20}, 20, impl.Radio{Last: 20}, true},
		{"at the same hour, with calls missed", impl.Radio{Last: 20, Missed: 4}, 20, impl.Radio{Last: 20}, true},
		{"an hour before", impl.Radio{Last: 20, Missed: 1}, 19, impl.Radio{Last: 20, Missed: 1}, false},
		{"an hour behind", impl.Radio{Last: 20, Missed: 1}, 21, impl.Radio{Last: 21}, true},
		{"very late", impl.Radio{Last: 20, Missed: 1000}, 100000, impl.Radio{Last: 100000}, true},
		{"too late", impl.Radio{Last: 20, Missed: 1}, 100001, impl.Radio{Last: 20, Missed: 1}, false},
		{"at the first hour", impl.Radio{}, 0, impl.Radio{}, true},
		{"at the last hour", impl.Radio{Last: 100000, Missed: 1}, 100000, impl.Radio{Last: 100000}, true},
		{"behind the last hour", impl.Radio{Last: 100000}, 100001, impl.Radio{Last: 100000}, false},
		{"before the first hour", impl.Radio{}, -1, impl.Radio{}, false},
		{"at the greatest int", impl.Radio{Last: 20}, math.MaxInt, impl.Radio{Last: 20}, false},
		{"at the least int", impl.Radio{Last: 20}, math.MinInt, impl.Radio{Last: 20}, false},
		{"with Last below 0", impl.Radio{Last: -1}, 26, impl.Radio{Last: -1}, false},
		{"with Last beyond the last hour", impl.Radio{Last: 100001}, 100001, impl.Radio{Last: 100001}, false},
		{"with Missed below 0", impl.Radio{Last: 20, Missed: -1}, 26, impl.Radio{Last: 20, Missed: -1}, false},
		{"with too many missed", impl.Radio{Last: 20, Missed: 1001}, 26, impl.Radio{Last: 20, Missed: 1001}, false},
	}
	for _, c := range cases {
		if got, ok := impl.Hear(c.r, c.hour); ok != c.ok || got != c.want {
			t.Errorf("%s: Hear(%v, %d) is %v and %v", c.name, c.r, c.hour, got, ok)
		}
	}
}

func TestMiss(t *testing.T) {
	cases := []struct {
		name   string
		r      impl.Radio
		hour   int
		missed int
		ok     bool
	}{
		{"at the same hour", impl.Radio{Last: 20}, 20, 0, true},
		{"an hour before the first call", impl.Radio{Last: 20}, 25, 0, true},
		{"at the hour of the first call", impl.Radio{Last: 20}, 26, 1, true},
		{"an hour before the second call", impl.Radio{Last: 20}, 31, 1, true},
		{"at the hour of the second call", impl.Radio{Last: 20}, 32, 2, true},
		{"more were missed before", impl.Radio{Last: 20, Missed: 1000}, 26, 1, true},
		{"more were missed before, at the same hour", impl.Radio{Last: 20, Missed: 7}, 20, 0, true},
		{"an hour before Last", impl.Radio{Last: 20, Missed: 7}, 19, 7, false},
		{"as many as may be", impl.Radio{Last: 20}, 6020, 1000, true},
		{"as many as may be, an hour before the next one", impl.Radio{Last: 20}, 6025, 1000, true},
		{"one too many", impl.Radio{Last: 20, Missed: 7}, 6026, 7, false},
		{"far too many", impl.Radio{Last: 20, Missed: 7}, 100000, 7, false},
		{"at the first hour", impl.Radio{}, 0, 0, true},
		{"the first call of all", impl.Radio{}, 6, 1, true},
		{"until the last hour", impl.Radio{Last: 99988}, 100000, 2, true},
		{"until the last hour, not long", impl.Radio{Last: 99989, Missed: 5}, 100000, 1, true},
		{"at the last hour", impl.Radio{Last: 100000, Missed: 5}, 100000, 0, true},
		{"behind the last hour", impl.Radio{Last: 99990, Missed: 5}, 100001, 5, false},
		{"before the first hour", impl.Radio{Missed: 5}, -1, 5, false},
		{"before the first hour, by a call", impl.Radio{Missed: 5}, -6, 5, false},
		{"at the greatest int", impl.Radio{Last: 20, Missed: 5}, math.MaxInt, 5, false},
		{"at the least int", impl.Radio{Last: 20, Missed: 5}, math.MinInt, 5, false},
		{"with Last below 0", impl.Radio{Last: -1, Missed: 5}, 26, 5, false},
		{"with Last beyond the last hour", impl.Radio{Last: 100001, Missed: 5}, 100001, 5, false},
		{"with Missed below 0", impl.Radio{Last: 20, Missed: -1}, 26, -1, false},
		{"with too many missed", impl.Radio{Last: 20, Missed: 1001}, 26, 1001, false},
	}
	for _, c := range cases {
		want := impl.Radio{Last: c.r.Last, Missed: c.missed}
		if got, ok := impl.Miss(c.r, c.hour); ok != c.ok || got != want {
			t.Errorf("%s: Miss(%v, %d) is %v and %v", c.name, c.r, c.hour, got, ok)
		}
	}
}

func TestAlarmHour(t *testing.T) {
	for _, c := range []struct {
		r    impl.Radio
		want int
	}{
		{impl.Radio{}, 12},
		{impl.Radio{Last: 20}, 32},
		{impl.Radio{Last: 20, Missed: 1}, 32},
		{impl.Radio{Last: 20, Missed: 2}, 32},
		{impl.Radio{Last: 20, Missed: 1000}, 32},
		{impl.Radio{Last: 99988}, 100000},
		{impl.Radio{Last: 99989}, 100001},
		{impl.Radio{Last: 100000}, 100012},
		{impl.Radio{Last: 100001}, -1},
		{impl.Radio{Last: -1}, -1},
		{impl.Radio{Last: 20, Missed: 1001}, -1},
		{impl.Radio{Last: 20, Missed: -1}, -1},
		{impl.Radio{Last: math.MaxInt}, -1},
		{impl.Radio{Last: math.MinInt}, -1},
	} {
		if got := impl.AlarmHour(c.r); got != c.want {
			t.Errorf("AlarmHour(%v) is %d, not %d", c.r, got, c.want)
		}
	}
}

func TestRadiosOfEdges(t *testing.T) {
	for _, last := range edgeHours {
		for _, missed := range edgeMissed {
			for _, hour := range edgeHours {
				checkRadio(t, impl.Radio{Last: last, Missed: missed}, hour)
			}
			for more := -7; more <= 20; more++ {
				checkRadio(t, impl.Radio{Last: last, Missed: missed}, last+more)
			}
		}
	}
}

func TestTheAlarmComesJustWhenTwoCallsAreMissing(t *testing.T) {
	for _, last := range []int{0, 1, 5, 6, 20, 99, 5000, 99960, 99975, 99987, 99988, 99989, 99994, 99999, 100000} {
		for _, missed := range []int{0, 1, 2, 1000} {
			r := impl.Radio{Last: last, Missed: missed}
			alarm := impl.AlarmHour(r)
			for hour := last; hour <= min(last+40, 100000); hour++ {
				after, ok := impl.Miss(r, hour)
				if !ok || impl.IsAlarm(after) != (hour >= alarm) || impl.IsAlarm(after) != (callsOf(last, hour) >= 2) {
					t.Errorf("the alarm of %v is at %d, and Miss(%d) is %v and %v", r, alarm, hour, after, ok)
				}
			}
		}
	}
}

func TestCallsOneAfterTheOther(t *testing.T) {
	throw := dice()
	r, hour := impl.Radio{}, 0
	for hour < 99000 {
		hour += throw(9)
		for more := range 20 {
			missed, ok := impl.Miss(r, hour+more)
			if !ok || missed.Last != r.Last || missed.Missed != (hour+more-r.Last)/6 {
				t.Errorf("Miss(%v, %d) is %v and %v", r, hour+more, missed, ok)
			}
			// What was missed before does not show in what is missed later.
			if again, ok := impl.Miss(missed, hour+more+3); !ok || again.Missed != (hour+more+3-r.Last)/6 {
				t.Errorf("Miss(%v, %d) is %v and %v", missed, hour+more+3, again, ok)
			}
			r = missed
		}
		heard, ok := impl.Hear(r, hour)
		if !ok || heard != (impl.Radio{Last: hour}) || impl.IsAlarm(heard) {
			t.Errorf("Hear(%v, %d) is %v and %v", r, hour, heard, ok)
		}
		r = heard
	}
}
