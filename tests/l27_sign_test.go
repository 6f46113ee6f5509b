package tests

import (
	"math"
	"slices"
	"testing"

	"loop.example/g03008/impl"
)

// signOf is SignOf a number from 0 to 9999, told from its lowest digit on.
func signOf(n int) []int {
	sign, ones := []int{1 + n%2}, n%2
	for n /= 2; n > 0; n /= 2 {
		sign = append([]int{1 + n%2}, sign...)
		ones += n % 2
	}
	return append(sign, 1+ones%2)
}

// numbersBySign are all numbers that have a sign, by the text of that.
func numbersBySign() map[string]int {
	numbers := map[string]int{}
	for n := range 10000 {
		numbers[textOfSign(signOf(n))] = n
	}
	return numbers
}

// textOfSign is a text that tells all lists of small numbers apart.
func textOfSign(l []int) string {
	text := []byte{}
	for _, flash := range l {
		text = append(text, byte('0'+flash))
	}
	return string(text)
}

func checkSign(t *testing.T, name string, n int, want []int) {
	t.Helper()
	if got := impl.SignOf(n); !slices.Equal(got, want) {
		t.Errorf("%s: SignOf(%d) is %v, not %v", name, n, got, want)
	}
}

func checkRead(t *testing.T, name string, l []int, want int, ok bool) {
	t.Helper()
	if got, gotOk := impl.ReadSign(l); got != want || gotOk != ok {
		t.Errorf("%s: ReadSign(%v) is %d and %v, not %d and %v", name, l, got, gotOk, want, ok)
	}
}

func checkFlip(t *testing.T, name string, l []int, i int, want []int) {
	t.Helper()
	if got := impl.FlipFlash(l, i); !slices.Equal(got, want) {
		t.Errorf("%s: FlipFlash(%v, %d) is %v, not %v", name, l, i, got, want)
	}
}

// notSigned are numbers that have no sign.
var notSigned = []int{-1, -2, -5, -9999, 10000, 10001, 16383, 16384, 1 << 32, 1<<32 + 5, math.MaxInt, math.MaxInt - 1, math.MinInt, math.MinInt + 1, math.MinInt + 5}

// otherFlashes are numbers that are no flash of a sign.
var otherFlashes = []int{0, 3, 4, -1, -2, 257, 258, 1 << 32, 1<<32 + 1, 1<<32 + 2, math.MaxInt, math.MinInt, math.MinInt + 1, math.MinInt + 2}

func TestSignOf(t *testing.T) {
	for _, c := range []struct {
		n    int
		want []int
	}{
		{0, []int{1, 1}},
		{1, []int{2, 2}},
		{2, []int{2, 1, 2}},
		{3, []int{2, 2, 1}},
		{4, []int{2, 1, 1, 2}},
		{5, []int{2, 1, 2, 1}},
		{7, []int{2, 2, 2, 2}},
		{12, []int{2, 2, 1, 1, 1}},
		{255, []int{2, 2, 2, 2, 2, 2, 2, 2, 1}},
		{256, []int{2, 1, 1, 1, 1, 1, 1, 1, 1, 2}},
		{8191, []int{2, 2, 2, 2, 2, 2, 2, 2, 2, 2, 2, 2, 2, 2}},
		{8192, []int{2, 1, 1, 1, 1, 1, 1, 1, 1, 1, 1, 1, 1, 1, 2}},
		{9998, []int{2, 1, 1, 2, 2, 2, 1, 1, 1, 1, 2, 2, 2, 1, 2}},
		{9999, []int{2, 1, 1, 2, 2, 2, 1, 1, 1, 1, 2, 2, 2, 2, 1}},
	} {
		checkSign(t, "written out", c.n, c.want)
		checkRead(t, "written out", c.want, c.n, true)
	}
	for _, n := range notSigned {
		checkSign(t, "no sign", n, nil)
	}
}

func TestEveryNumberIsReadFromItsSign(t *testing.T) {
	for n := range 10000 {
		sign := signOf(n)
		checkSign(t, "each number", n, sign)
		checkRead(t, "each number", sign, n, true)
		if got := impl.CountLong(impl.SignOf(n)); got%2 != 0 {
			t.Errorf("the sign of %d has %d long flashes", n, got)
		}
	}
}

func TestOneFlashThatIsWrongIsSeen(t *testing.T) {
	for n := range 10000 {
		sign := signOf(n)
		for i, flash := range sign {
			changed := slices.Clone(sign)
			changed[i] = 3 - flash
			checkRead(t, "a flash is changed", changed, 0, false)
			checkFlip(t, "each flash", sign, i, changed)
			checkFlip(t, "each flash, back", changed, i, sign)
			changed[i] = otherFlashes[n%len(otherFlashes)]
			checkRead(t, "a flash is no flash", changed, 0, false)
		}
	}
}

func TestSignsThatAreTooLongOrTooShort(t *testing.T) {
	numbers := numbersBySign()
	check := func(name string, l []int) {
		n, ok := numbers[textOfSign(l)]
		checkRead(t, name, l, n, ok)
	}
	for n := range 10000 {
		sign := signOf(n)
		check("the last flash is missing", sign[:len(sign)-1])
		check("the first flash is missing", sign[1:])
		for _, flash := range []int{1, 2} {
			check("a flash more behind", append(slices.Clone(sign), flash))
			check("a flash more ahead", append([]int{flash}, sign...))
		}
		checkRead(t, "a 1 ahead of the digits", append([]int{1}, sign...), 0, false)
		checkRead(t, "two 1s ahead of the digits", append([]int{1, 1}, sign...), 0, false)
	}
}

func TestReadSignOfEveryShortList(t *testing.T) {
	numbers := numbersBySign()
	read := 0
	for count := range 17 {
		for _, l := range listsOf(count, 1, 2) {
			n, ok := numbers[textOfSign(l)]
			checkRead(t, "flashes", l, n, ok)
			if ok {
				read++
			}
		}
	}
	if read != 10000 {
		t.Errorf("%d lists are signs", read)
	}
	for count := range 7 {
		for _, l := range listsOf(count, 0, 1, 2, 3) {
			n, ok := numbers[textOfSign(l)]
			checkRead(t, "flashes and others", l, n, ok)
		}
	}
}

func TestReadSign(t *testing.T) {
	ones := func(count int) []int { return slices.Repeat([]int{1}, count) }
	twos := func(count int) []int { return slices.Repeat([]int{2}, count) }
	for _, c := range []struct {
		name string
		l    []int
		n    int
		ok   bool
	}{
		{"empty", []int{}, 0, false},
		{"nil", nil, 0, false},
		{"the last flash alone", []int{1}, 0, false},
		{"the last flash alone, a long one", []int{2}, 0, false},
		{"a 0", []int{1, 1}, 0, true},
		{"a 1", []int{2, 2}, 1, true},
		{"a 0 with the wrong last flash", []int{1, 2}, 0, false},
		{"a 1 with the wrong last flash", []int{2, 1}, 0, false},
		{"a 0 too many", []int{1, 1, 1}, 0, false},
		{"a 0 ahead of a 1", []int{1, 2, 2}, 0, false},
		{"the digits of 10000", []int{2, 1, 1, 2, 2, 2, 1, 1, 1, 2, 1, 1, 1, 1, 2}, 0, false},
		{"the digits of 10000, with the other last flash", []int{2, 1, 1, 2, 2, 2, 1, 1, 1, 2, 1, 1, 1, 1, 1}, 0, false},
		{"the digits of 16383", append(twos(14), 1), 0, false},
		{"the digits of 16384", append(append([]int{2}, ones(14)...), 2), 0, false},
		{"a number in which nothing is left of 64 bits", append(append([]int{2}, ones(64)...), 2), 0, false},
		{"a number of which 64 bits are those of 5", slices.Concat([]int{2}, ones(61), []int{2, 1, 2, 2}), 0, false},
		{"a number of which 64 bits are those of -1", append(twos(64), 1), 0, false},
		{"a hundred short flashes", ones(100), 0, false},
		{"a hundred long flashes", twos(100), 0, false},
		{"a very long list", ones(100000), 0, false},
		{"a very long list of no flashes", make([]int, 100000), 0, false},
		{"no flash at first", []int{0, 1}, 0, false},
		{"no flash at last", []int{1, 0}, 0, false},
		{"no flash at last, where a long one should be", []int{2, 4}, 0, false},
		{"no flash amid others", []int{2, 3, 1}, 0, false},
		{"two that are no flashes", []int{3, 3}, 0, false},
		{"two that are below 0", []int{-1, -1}, 0, false},
		{"the greatest int", []int{2, math.MaxInt, 2}, 0, false},
		{"the least int", []int{2, 1, math.MinInt}, 0, false},
		{"the greatest and the least int", []int{math.MaxInt, math.MinInt}, 0, false},
	} {
		checkRead(t, c.name, c.l, c.n, c.ok)
	}
}

func TestFlipFlash(t *testing.T) {
	five := []int{2, 1, 2, 1}
	for _, c := range []struct {
		name string
		l    []int
		i    int
		want []int
	}{
		{"the first flash", five, 0, []int{1, 1, 2, 1}},
		{"a flash amid others", five, 1, []int{2, 2, 2, 1}},
		{"the last flash", five, 3, []int{2, 1, 2, 2}},
		{"behind the last flash", five, 4, five},
		{"before the first flash", five, -1, five},
		{"as far before as there are flashes", five, -4, five},
		{"the greatest int", five, math.MaxInt, five},
		{"the least int", five, math.MinInt, five},
		{"the only flash", []int{1}, 0, []int{2}},
		{"no flashes", nil, 0, nil},
		{"no flashes, empty", []int{}, 0, nil},
		{"no flashes, before", nil, -1, nil},
		{"another number", []int{7}, 0, []int{7}},
		{"another number amid flashes", []int{1, 0, 2}, 1, []int{1, 0, 2}},
		{"a flash beside other numbers", []int{3, 1, 0}, 1, []int{3, 2, 0}},
	} {
		checkFlip(t, c.name, c.l, c.i, c.want)
	}
	for _, n := range otherFlashes {
		checkFlip(t, "no flash", []int{1, n, 2}, 1, []int{1, n, 2})
		checkFlip(t, "beside no flash", []int{n, 1, n}, 1, []int{n, 2, n})
	}
	spare := make([]int, 2, 9)
	checkFlip(t, "in the spare capacity", spare, 2, spare)
}

func TestCountLongAndSignTime(t *testing.T) {
	for _, c := range []struct {
		name       string
		l          []int
		long, time int
	}{
		{"a sign", []int{2, 1, 2, 1}, 2, 11},
		{"a short flash", []int{1}, 0, 1},
		{"a long flash", []int{2}, 1, 3},
		{"two short flashes", []int{1, 1}, 0, 3},
		{"two long flashes", []int{2, 2}, 2, 7},
		{"a flash of each", []int{1, 2}, 1, 5},
		{"no flash", []int{}, 0, 0},
		{"nil", nil, 0, 0},
		{"another number", []int{7}, 0, 0},
		{"another number and a flash", []int{7, 1}, 0, 2},
		{"a flash and another number", []int{2, 0}, 1, 4},
		{"other numbers", []int{0, 3, -2}, 0, 2},
		{"the greatest and the least int", []int{math.MaxInt, 2, math.MinInt}, 1, 5},
		{"very many short flashes", slices.Repeat([]int{1}, 100000), 0, 199999},
		{"very many long flashes", slices.Repeat([]int{2}, 100000), 100000, 399999},
	} {
		if got := impl.CountLong(c.l); got != c.long {
			t.Errorf("%s: CountLong is %d, not %d", c.name, got, c.long)
		}
		if got := impl.SignTime(c.l); got != c.time {
			t.Errorf("%s: SignTime is %d, not %d", c.name, got, c.time)
		}
	}
	for _, n := range otherFlashes {
		if got := impl.CountLong([]int{2, n, 1}); got != 1 {
			t.Errorf("CountLong of a long flash, %d and a short one is %d", n, got)
		}
		if got := impl.SignTime([]int{2, n, 1}); got != 6 {
			t.Errorf("SignTime of a long flash, %d and a short one is %d", n, got)
		}
	}
}

func TestCountLongAndSignTimeOfStrewnLists(t *testing.T) {
	throw := dice()
	for count := range 200 {
		l := []int{}
		long, time := 0, max(0, count-1)
		for range count {
			flash := throw(4)
			l = append(l, flash)
			long += []int{0, 0, 1, 0}[flash]
			time += []int{0, 1, 3, 0}[flash]
		}
		if got := impl.CountLong(l); got != long {
			t.Errorf("CountLong(%v) is %d, not %d", l, got, long)
		}
		if got := impl.SignTime(l); got != time {
			t.Errorf("SignTime(%v) is %d, not %d", l, got, time)
		}
	}
}

func TestSignsStayAsTheyWere(t *testing.T) {
	for _, list := range [][]int{nil, {1}, {1, 1}, signOf(5), signOf(9999), {2, 1, 2, 2}, {0, 3, 7}, {1, 2, 2}} {
		l := guard(list...)
		for i := -1; i <= len(list); i++ {
			checkOwnMemory(t, "FlipFlash", l, func() []int { return impl.FlipFlash(l.list, i) })
		}
		impl.ReadSign(l.list)
		impl.CountLong(l.list)
		impl.SignTime(l.list)
		l.check(t, "the functions of signs")
	}
	for _, n := range []int{0, 1, 5, 9999, 10000, -1} {
		checkOwnMemory(t, "SignOf", guard[int](), func() []int { return impl.SignOf(n) })
	}
}

func TestSignsKeepNoState(t *testing.T) {
	l := signOf(5)
	first, _ := impl.ReadSign(l)
	l[3] = 2
	_, ok := impl.ReadSign(l)
	l[1] = 2
	third, _ := impl.ReadSign(l)
	if first != 5 || ok || third != 7 {
		t.Errorf("while the flashes change, ReadSign is %d, %v and %d", first, ok, third)
	}
}
