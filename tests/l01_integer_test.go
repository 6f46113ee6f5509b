package tests

import (
	"math"
	"math/big"
	"strconv"
	"strings"
	"testing"

	"loop.example/g03008/impl"
)

func TestMaxValue(t *testing.T) {
	if impl.MaxValue != 1000000000000 {
		t.Errorf("MaxValue is %d", impl.MaxValue)
	}
}

func TestFormatInt(t *testing.T) {
	cases := []struct {
		n    int
		want string
	}{
		{0, "0"},
		{7, "7"},
		{9, "9"},
		{10, "10"},
		{120, "120"},
		{9007, "9007"},
		{-1, "-1"},
		{-3, "-3"},
		{-10, "-10"},
		{-907, "-907"},
		{impl.MaxValue, "1000000000000"},
		{impl.MaxValue + 1, "1000000000001"},
		{-impl.MaxValue, "-1000000000000"},
		{math.MaxInt, "9223372036854775807"},
		{math.MinInt + 1, "-9223372036854775807"},
		{math.MinInt, "-9223372036854775808"},
	}
	for _, c := range cases {
		if got := impl.FormatInt(c.n); got != c.want {
			t.Errorf("FormatInt(%d) is %q, not %q", c.n, got, c.want)
		}
	}
}

func TestParseInt(t *testing.T) {
	cases := []struct {
		s    string
		want int
	}{
		{"0", 0},
		{"7", 7},
		{"10", 10},
		{"17", 17},
		{"100", 100},
		{"9007", 9007},
		{"1234567890", 1234567890},
		{"999999999999", impl.MaxValue - 1},
		{"1000000000000", impl.MaxValue},
	}
	for _, c := range cases {
		if got, ok := impl.ParseInt(c.s); got != c.want || !ok {
			t.Errorf("ParseInt(%q) is %d, %v, not %d, true", c.s, got, ok, c.want)
		}
	}
}

func checkThereAndBack(t *testing.T, n int) {
	t.Helper()
	s := impl.FormatInt(n)
	if s != strconv.Itoa(n) {
		t.Errorf("FormatInt(%d) is %q", n, s)
	}
	if got, ok := impl.ParseInt(s); got != n || !ok {
		t.Errorf("ParseInt(%q) is %d, %v", s, got, ok)
	}
}

func TestIntegersThereAndBack(t *testing.T) {
	for n := range 2000 {
		checkThereAndBack(t, n)
	}
	for power := 10; power < impl.MaxValue; power *= 10 {
		for _, n := range []int{power - 1, power, power + 1, 7*power + 3} {
			checkThereAndBack(t, n)
		}
	}
	checkThereAndBack(t, impl.MaxValue-1)
	checkThereAndBack(t, impl.MaxValue)
}

func checkNoInt(t *testing.T, s string) {
	t.Helper()
	if got, ok := impl.ParseInt(s); got != 0 || ok {
		t.Errorf("ParseInt(%.40q) is %d, %v, not 0, false", s, got, ok)
	}
}

func TestParseIntRejectsLeadingZeros(t *testing.T) {
	for _, s := range []string{"00", "000", "01", "017", "007", "00000000000017", "01000000000000", "-01", "+01"} {
		checkNoInt(t, s)
	}
	for n := range 200 {
		checkNoInt(t, "0"+strconv.Itoa(n))
	}
}

func TestParseIntRejectsSigns(t *testing.T) {
	for _, s := range []string{"-", "+", "-0", "+0", "-1", "+1", "+17", "-17", "--1", "1-", "1+", "-1000000000000", "-9223372036854775808"} {
		checkNoInt(t, s)
	}
}

func TestParseIntRejectsOtherBytes(t *testing.T) {
	for _, s := range []string{
		"", " ", "x", "1x", "x1", "1x1", "abc", "0x10", "0b1", "0o7", "1e3", "1_000", "1,000", "1.0", ".5", "NaN",
		" 1", "1 ", "1 2", "\t1", "1\n", "\n", "1\r\n", "\x00", "1\x00", "\xff", "\uff11", "\u0663", "1\u00a0",
	} {
		checkNoInt(t, s)
	}
	for b := range 256 {
		if b < '0' || b > '9' {
			checkNoInt(t, string([]byte{byte(b)}))
			checkNoInt(t, string([]byte{'1', byte(b)}))
			checkNoInt(t, string([]byte{byte(b), '1'}))
			checkNoInt(t, string([]byte{'1', byte(b), '1'}))
		}
	}
}

func TestParseIntRejectsLargeNumbers(t *testing.T) {
	for _, s := range []string{
		"1000000000001", "1000000000010", "2000000000000", "9999999999999", "10000000000000",
		"9223372036854775807", "9223372036854775808",
		// modulo 2 to the power of 64 these are 0, 1 and 17
		"18446744073709551616", "18446744073709551617", "18446744073709551633",
	} {
		checkNoInt(t, s)
	}
}

func TestParseIntRejectsLongTexts(t *testing.T) {
	const long = 100000
	checkNoInt(t, strings.Repeat("9", long))
	checkNoInt(t, strings.Repeat("0", long))
	checkNoInt(t, strings.Repeat("0", long)+"1")
	checkNoInt(t, "1"+strings.Repeat("0", long))
	checkNoInt(t, strings.Repeat(" ", long)+"1")
	checkNoInt(t, strings.Repeat("x", long))
}

func TestMinAndMax(t *testing.T) {
	cases := []struct{ less, more int }{
		{0, 0},
		{5, 5},
		{-5, -5},
		{2, 3},
		{-1, 2},
		{-3, -2},
		{0, 1},
		{-1, 0},
		{impl.MaxValue, impl.MaxValue + 1},
		{math.MinInt, math.MaxInt},
		{math.MinInt, 0},
		{0, math.MaxInt},
		{math.MinInt, math.MinInt + 1},
		{math.MaxInt - 1, math.MaxInt},
	}
	for _, c := range cases {
		for _, p := range [][2]int{{c.less, c.more}, {c.more, c.less}} {
			if got := impl.Min(p[0], p[1]); got != c.less {
				t.Errorf("Min(%d, %d) is %d", p[0], p[1], got)
			}
			if got := impl.Max(p[0], p[1]); got != c.more {
				t.Errorf("Max(%d, %d) is %d", p[0], p[1], got)
			}
		}
	}
}

func TestCeilDiv(t *testing.T) {
	const last = impl.MaxValue
	cases := []struct{ a, b, want int }{
		{7, 3, 3},
		{6, 3, 2},
		{1, 3, 1},
		{10, 1, 10},
		{0, 1, 0},
		{0, last, 0},
		{1, last, 1},
		{last - 1, last, 1},
		{last, last, 1},
		{last, last - 1, 2},
		{last, 1, last},
		{last, 2, last / 2},
		{last - 1, 2, last / 2},
		{last, 3, 333333333334},
	}
	for _, c := range cases {
		if got := impl.CeilDiv(c.a, c.b); got != c.want {
			t.Errorf("CeilDiv(%d, %d) is %d, not %d", c.a, c.b, got, c.want)
		}
	}
}

func TestCeilDivIsTheLeastThatIsEnough(t *testing.T) {
	for a := range 100 {
		for b := 1; b < 30; b++ {
			k := impl.CeilDiv(a, b)
			if k*b < a || k > 0 && (k-1)*b >= a || k < 0 {
				t.Errorf("CeilDiv(%d, %d) is %d", a, b, k)
			}
		}
	}
}

func TestCeilDivOutOfRange(t *testing.T) {
	const beyond = impl.MaxValue + 1
	for _, a := range []int{-1, -2, -7, beyond, math.MinInt, math.MaxInt} {
		for _, b := range []int{1, 2, 7, impl.MaxValue} {
			if got := impl.CeilDiv(a, b); got != 0 {
				t.Errorf("CeilDiv(%d, %d) is %d", a, b, got)
			}
		}
	}
	for _, b := range []int{0, -1, -2, beyond, math.MinInt, math.MaxInt} {
		for _, a := range []int{0, 1, 7, impl.MaxValue, -7, beyond} {
			if got := impl.CeilDiv(a, b); got != 0 {
				t.Errorf("CeilDiv(%d, %d) is %d", a, b, got)
			}
		}
	}
}

func TestMod(t *testing.T) {
	const last = impl.MaxValue
	cases := []struct{ p, q, want int }{
		{-1, 7, 6},
		{15, 7, 1},
		{0, 7, 0},
		{6, 7, 6},
		{7, 7, 0},
		{-6, 7, 1},
		{-7, 7, 0},
		{-8, 7, 6},
		{-14, 7, 0},
		{5, 1, 0},
		{-5, 1, 0},
		{last, last, 0},
		{last + 1, last, 1},
		{last - 1, last, last - 1},
		{-1, last, last - 1},
		{-last, last, 0},
		{-last - 1, last, last - 1},
		{math.MaxInt, 10, 7},
		{math.MaxInt, last, 36854775807},
		{math.MinInt, 1, 0},
		{math.MinInt, 2, 0},
		{math.MinInt, 7, 6},
		{math.MinInt, 10, 2},
		{math.MinInt, last, 963145224192},
	}
	for _, c := range cases {
		if got := impl.Mod(c.p, c.q); got != c.want {
			t.Errorf("Mod(%d, %d) is %d, not %d", c.p, c.q, got, c.want)
		}
	}
}

func TestModAgreesWithExactArithmetic(t *testing.T) {
	ps := []int{math.MinInt, math.MinInt + 1, -impl.MaxValue - 1, impl.MaxValue + 1, math.MaxInt - 1, math.MaxInt}
	for p := -50; p <= 50; p++ {
		ps = append(ps, p)
	}
	qs := []int{1<<31 - 1, impl.MaxValue - 1, impl.MaxValue}
	for q := 1; q <= 20; q++ {
		qs = append(qs, q)
	}
	for _, p := range ps {
		for _, q := range qs {
			want := new(big.Int).Mod(big.NewInt(int64(p)), big.NewInt(int64(q))).Int64()
			if got := impl.Mod(p, q); int64(got) != want {
				t.Errorf("Mod(%d, %d) is %d, not %d", p, q, got, want)
			}
		}
	}
}

func TestModOutOfRange(t *testing.T) {
	for _, q := range []int{0, -1, -7, impl.MaxValue + 1, math.MinInt, math.MaxInt} {
		for _, p := range []int{0, 1, 3, -3, impl.MaxValue, math.MinInt, math.MaxInt} {
			if got := impl.Mod(p, q); got != 0 {
				t.Errorf("Mod(%d, %d) is %d", p, q, got)
			}
		}
	}
}

func TestInRange(t *testing.T) {
	cases := []struct {
		n, low, high int
		want         bool
	}{
		{2, 2, 4, true},
		{3, 2, 4, true},
		{4, 2, 4, true},
		{1, 2, 4, false},
		{5, 2, 4, false},
		{-3, -4, -2, true},
		{-5, -4, -2, false},
		{-1, -4, -2, false},
		{3, 3, 3, true},
		{2, 3, 3, false},
		{4, 3, 3, false},
		{0, math.MinInt, math.MaxInt, true},
		{math.MinInt, math.MinInt, math.MaxInt, true},
		{math.MaxInt, math.MinInt, math.MaxInt, true},
		{math.MinInt, math.MinInt + 1, math.MaxInt, false},
		{math.MaxInt, math.MinInt, math.MaxInt - 1, false},
	}
	for _, c := range cases {
		if got := impl.InRange(c.n, c.low, c.high); got != c.want {
			t.Errorf("InRange(%d, %d, %d) is %v", c.n, c.low, c.high, got)
		}
	}
}

func TestInRangeOfAnEmptyRange(t *testing.T) {
	for n := 0; n <= 6; n++ {
		if impl.InRange(n, 4, 2) || impl.InRange(n, 4, 3) {
			t.Errorf("%d is in an empty range", n)
		}
	}
	for _, n := range []int{math.MinInt, -1, 0, 1, math.MaxInt} {
		if impl.InRange(n, math.MaxInt, math.MinInt) {
			t.Errorf("%d is in an empty range", n)
		}
	}
}
