package tests

import (
	"math"
	"strings"
	"testing"

	"loop.example/g03005/impl"
)

func TestMaxValue(t *testing.T) {
	if impl.MaxValue != 1000000000000 {
		t.Errorf("MaxValue = %d", impl.MaxValue)
	}
}

func TestFormatInt(t *testing.T) {
	cases := []struct {
		n    int
		want string
	}{
		{0, "0"},
		{7, "7"},
		{-3, "-3"},
		{10, "10"},
		{-120, "-120"},
		{impl.MaxValue, "1000000000000"},
		{-impl.MaxValue, "-1000000000000"},
		{math.MaxInt, "9223372036854775807"},
		{math.MinInt + 1, "-9223372036854775807"},
		{math.MinInt, "-9223372036854775808"},
	}
	for _, c := range cases {
		if got := impl.FormatInt(c.n); got != c.want {
			t.Errorf("FormatInt(%d) = %q, want %q", c.n, got, c.want)
		}
	}
}

func TestParseIntAccepts(t *testing.T) {
	cases := []struct {
		s    string
		want int
	}{
		{"0", 0},
		{"1", 1},
		{"9", 9},
		{"10", 10},
		{"17", 17},
		{"100", 100},
		{"1234567890", 1234567890},
		{"999999999999", 999999999999},
		{"1000000000000", impl.MaxValue},
	}
	for _, c := range cases {
		if got, ok := impl.ParseInt(c.s); !ok || got != c.want {
			t.Errorf("ParseInt(%q) = %d, %v, want %d, true", c.s, got, ok, c.want)
		}
	}
}

func TestParseIntRejects(t *testing.T) {
	cases := []string{
		"",
		"00", "000", "01", "017", "001000000000000", strings.Repeat("0", 50) + "1",
		"+", "-", "+0", "-0", "+1", "-1", "--1", "-01", "-1000000000000",
		"1000000000001", "1000000000010", "9999999999999", "10000000000000",
		"9223372036854775807", "9223372036854775808", "-9223372036854775808",
		"18446744073709551616", "18446744073709551617",
		"340282366920938463463374607431768211457", strings.Repeat("9", 1000),
		" ", " 1", "1 ", "1\n", "\t1", "1 2", "1x", "x1", "x", "a",
		"1.0", "1,000", "1_000", "1e3", "0x1", "0b1", "0o7", "1-", "1+",
		"\x00", "1\x00", "\xff", "/", ":", "1/", "1:",
		"\u0661", "\uff11", "\u00b2", "\u2212" + "1",
	}
	for _, s := range cases {
		if got, ok := impl.ParseInt(s); ok || got != 0 {
			t.Errorf("ParseInt(%q) = %d, %v, want 0, false", s, got, ok)
		}
	}
}

// checkParsed holds ParseInt against its definition for one integer.
func checkParsed(t *testing.T, n int) {
	t.Helper()
	s := impl.FormatInt(n)
	got, ok := impl.ParseInt(s)
	if n >= 0 && n <= impl.MaxValue {
		if !ok || got != n {
			t.Errorf("ParseInt(%q) = %d, %v, want %d, true", s, got, ok, n)
		}
	} else if ok || got != 0 {
		t.Errorf("ParseInt(%q) = %d, %v, want 0, false", s, got, ok)
	}
	if got, ok := impl.ParseInt("0" + s); ok || got != 0 {
		t.Errorf("ParseInt(%q) = %d, %v, want 0, false", "0"+s, got, ok)
	}
}

func TestParseIntInvertsFormatInt(t *testing.T) {
	for n := -1000; n <= 20000; n++ {
		checkParsed(t, n)
	}
	for power := 1; power <= 100*impl.MaxValue; power *= 10 {
		for n := power - 2; n <= power+2; n++ {
			checkParsed(t, n)
			checkParsed(t, -n)
		}
	}
	for shift := range 63 {
		checkParsed(t, 1<<shift)
		checkParsed(t, 1<<shift-1)
	}
	checkParsed(t, math.MaxInt)
	checkParsed(t, math.MinInt)
}

func TestParseIntOfAllShortTexts(t *testing.T) {
	alphabet := "+-019 a"
	texts := []string{""}
	for range 4 {
		longer := []string{""}
		for _, s := range texts {
			for i := range alphabet {
				longer = append(longer, s+alphabet[i:i+1])
			}
		}
		texts = longer
	}
	for _, s := range texts {
		digits := s != "" && strings.Trim(s, "019") == ""
		want := digits && (s == "0" || s[0] != '0')
		got, ok := impl.ParseInt(s)
		if ok != want || ok && impl.FormatInt(got) != s || !ok && got != 0 {
			t.Errorf("ParseInt(%q) = %d, %v, want ok %v", s, got, ok, want)
		}
	}
}

func TestMinAndMax(t *testing.T) {
	ordered := []int{
		math.MinInt, math.MinInt + 1, -impl.MaxValue, -2, -1, 0, 1, 2,
		impl.MaxValue, impl.MaxValue + 1, math.MaxInt - 1, math.MaxInt,
	}
	for i, a := range ordered {
		for j, b := range ordered {
			low, high := a, b
			if i > j {
				low, high = b, a
			}
			if got := impl.Min(a, b); got != low {
				t.Errorf("Min(%d, %d) = %d, want %d", a, b, got, low)
			}
			if got := impl.Max(a, b); got != high {
				t.Errorf("Max(%d, %d) = %d, want %d", a, b, got, high)
			}
		}
	}
}

func TestCeilDiv(t *testing.T) {
	cases := []struct{ a, b, want int }{
		{7, 3, 3},
		{6, 3, 2},
		{8, 3, 3},
		{0, 1, 0},
		{0, 5, 0},
		{1, 5, 1},
		{5, 5, 1},
		{5, 1, 5},
		{1, impl.MaxValue, 1},
		{impl.MaxValue, 1, impl.MaxValue},
		{impl.MaxValue, 2, 500000000000},
		{impl.MaxValue - 1, 2, 500000000000},
		{impl.MaxValue, impl.MaxValue, 1},
		{impl.MaxValue, impl.MaxValue - 1, 2},
		{impl.MaxValue - 1, impl.MaxValue, 1},
	}
	for _, c := range cases {
		if got := impl.CeilDiv(c.a, c.b); got != c.want {
			t.Errorf("CeilDiv(%d, %d) = %d, want %d", c.a, c.b, got, c.want)
		}
	}
}

func TestCeilDivIsTheLeastMultiple(t *testing.T) {
	for a := range 100 {
		for b := 1; b <= 100; b++ {
			got := impl.CeilDiv(a, b)
			if got*b < a || (got-1)*b >= a {
				t.Errorf("CeilDiv(%d, %d) = %d", a, b, got)
			}
		}
	}
}

func TestCeilDivOutOfRange(t *testing.T) {
	outside := []int{math.MinInt, -impl.MaxValue, -1, impl.MaxValue + 1, math.MaxInt}
	for _, n := range outside {
		for _, m := range append([]int{0, 1, 3, impl.MaxValue}, outside...) {
			if got := impl.CeilDiv(n, m); got != 0 {
				t.Errorf("CeilDiv(%d, %d) = %d, want 0", n, m, got)
			}
			if got := impl.CeilDiv(m, n); got != 0 {
				t.Errorf("CeilDiv(%d, %d) = %d, want 0", m, n, got)
			}
		}
	}
	for _, a := range []int{0, 1, 7, impl.MaxValue} {
		if got := impl.CeilDiv(a, 0); got != 0 {
			t.Errorf("CeilDiv(%d, 0) = %d, want 0", a, got)
		}
	}
}

func TestMod(t *testing.T) {
	cases := []struct{ p, q, want int }{
		{-1, 7, 6},
		{15, 7, 1},
		{0, 7, 0},
		{7, 7, 0},
		{-7, 7, 0},
		{-8, 7, 6},
		{-14, 7, 0},
		{6, 7, 6},
		{5, 1, 0},
		{-5, 1, 0},
		{-1, impl.MaxValue, impl.MaxValue - 1},
		{impl.MaxValue, impl.MaxValue, 0},
		{-impl.MaxValue, impl.MaxValue, 0},
		{impl.MaxValue + 1, impl.MaxValue, 1},
		{-impl.MaxValue - 1, impl.MaxValue, impl.MaxValue - 1},
		{math.MaxInt, 10, 7},
		{math.MinInt, 10, 2},
		{math.MinInt, 2, 0},
		{math.MaxInt, impl.MaxValue, 36854775807},
		{math.MinInt, impl.MaxValue, 963145224192},
	}
	for _, c := range cases {
		if got := impl.Mod(c.p, c.q); got != c.want {
			t.Errorf("Mod(%d, %d) = %d, want %d", c.p, c.q, got, c.want)
		}
	}
}

func TestModIsARemainder(t *testing.T) {
	for p := -100; p <= 100; p++ {
		for q := 1; q <= 30; q++ {
			got := impl.Mod(p, q)
			if got < 0 || got >= q || (p-got)%q != 0 {
				t.Errorf("Mod(%d, %d) = %d", p, q, got)
			}
		}
	}
}

func TestModOutOfRange(t *testing.T) {
	for _, q := range []int{math.MinInt, -impl.MaxValue, -7, -1, 0, impl.MaxValue + 1, math.MaxInt} {
		for _, p := range []int{math.MinInt, -3, -1, 0, 1, 3, impl.MaxValue, math.MaxInt} {
			if got := impl.Mod(p, q); got != 0 {
				t.Errorf("Mod(%d, %d) = %d, want 0", p, q, got)
			}
		}
	}
}

func TestInRange(t *testing.T) {
	cases := []struct {
		n, low, high int
		want         bool
	}{
		{2, 2, 3, true},
		{3, 2, 3, true},
		{1, 2, 3, false},
		{4, 2, 3, false},
		{5, 5, 5, true},
		{4, 5, 5, false},
		{6, 5, 5, false},
		{-2, -3, -1, true},
		{-4, -3, -1, false},
		{0, -3, -1, false},
		{2, 3, 1, false},
		{3, 3, 1, false},
		{1, 3, 1, false},
		{math.MinInt, math.MinInt, math.MaxInt, true},
		{math.MaxInt, math.MinInt, math.MaxInt, true},
		{math.MinInt, math.MaxInt, math.MinInt, false},
		{math.MinInt, 0, math.MaxInt, false},
		{math.MaxInt, math.MinInt, 0, false},
	}
	for _, c := range cases {
		if got := impl.InRange(c.n, c.low, c.high); got != c.want {
			t.Errorf("InRange(%d, %d, %d) = %v", c.n, c.low, c.high, got)
		}
	}
}
