package tests

import (
	"math"
	"regexp"
	"strconv"
	"strings"
	"testing"

	"loop.example/g01050/impl"
)

func interval(low int64, high int64) impl.Interval {
	return impl.Interval{Low: low, High: high}
}

// smallIntervals returns all intervals with both ends in -reach..reach.
func smallIntervals(reach int64) []impl.Interval {
	var all []impl.Interval
	for low := -reach; low <= reach; low++ {
		for high := low; high <= reach; high++ {
			all = append(all, interval(low, high))
		}
	}
	return all
}

func numbersOf(a impl.Interval) []int64 {
	var numbers []int64
	for n := a.Low; n <= a.High; n++ {
		numbers = append(numbers, n)
	}
	return numbers
}

// leastAround returns the least interval that has all of some numbers.
func leastAround(numbers []int64) impl.Interval {
	a := interval(numbers[0], numbers[0])
	for _, n := range numbers {
		if n < a.Low {
			a.Low = n
		}
		if n > a.High {
			a.High = n
		}
	}
	return a
}

// wrongIntervals returns structs that are no intervals.
func wrongIntervals() []impl.Interval {
	return []impl.Interval{
		{Low: 1, High: 0}, {Low: 0, High: -1}, {Low: -1, High: -2}, {Low: 5, High: -5},
		{Low: 1000000000, High: -1000000000}, {Low: 1000000000, High: 999999999},
		{Low: 0, High: 1000000001}, {Low: 1000000001, High: 1000000001}, {Low: 1000000001, High: 1000000000},
		{Low: -1000000001, High: 0}, {Low: -1000000001, High: -1000000001}, {Low: -1000000000, High: -1000000001},
		{Low: math.MinInt64, High: math.MaxInt64}, {Low: math.MinInt64, High: 0}, {Low: 0, High: math.MaxInt64},
		{Low: math.MinInt64, High: math.MinInt64}, {Low: math.MaxInt64, High: math.MaxInt64}, {Low: math.MaxInt64, High: math.MinInt64},
	}
}

// pairCase is a call of a function of two intervals, with its result.
type pairCase struct {
	a, b, result impl.Interval
	code         int64
}

func checkPairs(t *testing.T, name string, f func(impl.Interval, impl.Interval) (impl.Interval, int64), cases []pairCase) {
	t.Helper()
	for _, c := range cases {
		if result, code := f(c.a, c.b); code != c.code || result != c.result {
			t.Errorf("%s(%d, %d) = %d, %d, not %d, %d", name, c.a, c.b, result, code, c.result, c.code)
		}
		if result, code := f(c.b, c.a); code != c.code || result != c.result {
			t.Errorf("%s(%d, %d) = %d, %d, not %d, %d", name, c.b, c.a, result, code, c.result, c.code)
		}
	}
}

// checkWrongPairs gives a function each struct that is no interval, on each side and on both.
func checkWrongPairs(t *testing.T, name string, f func(impl.Interval, impl.Interval) (impl.Interval, int64)) {
	t.Helper()
	var cases []pairCase
	for _, wrong := range wrongIntervals() {
		for _, right := range []impl.Interval{{}, {Low: -3, High: 7}, {Low: 1000000000, High: 1000000000}, {Low: -1000000000, High: 1000000000}} {
			cases = append(cases, pairCase{a: wrong, b: right, code: impl.ErrInvalid})
		}
		for _, other := range wrongIntervals() {
			cases = append(cases, pairCase{a: wrong, b: other, code: impl.ErrInvalid})
		}
	}
	checkPairs(t, name, f, cases)
}

func TestConstantOfChapter2(t *testing.T) {
	if impl.MaxEnd != 1000000000 {
		t.Error("MaxEnd", impl.MaxEnd)
	}
}

func TestIsInterval(t *testing.T) {
	right := []impl.Interval{
		{}, {Low: 1, High: 1}, {Low: 1, High: 5}, {Low: -5, High: -2}, {Low: -2, High: 3}, {Low: -1, High: 0}, {Low: -7, High: -7},
		{Low: -1000000000, High: 1000000000}, {Low: 1000000000, High: 1000000000}, {Low: -1000000000, High: -1000000000}, {Low: 999999999, High: 1000000000},
	}
	for _, a := range right {
		if !impl.IsInterval(a) {
			t.Errorf("%d is an interval", a)
		}
	}
	for _, a := range wrongIntervals() {
		if impl.IsInterval(a) {
			t.Errorf("%d is no interval", a)
		}
	}
}

func TestAddIntervals(t *testing.T) {
	checkPairs(t, "AddIntervals", impl.AddIntervals, []pairCase{
		{a: interval(1, 5), b: interval(3, 9), result: interval(4, 14)},
		{a: interval(-5, -2), b: interval(-4, 10), result: interval(-9, 8)},
		{a: interval(0, 0), b: interval(-3, 7), result: interval(-3, 7)},
		{a: interval(4, 4), b: interval(-4, -4), result: interval(0, 0)},
		{a: interval(500000000, 500000000), b: interval(500000000, 500000000), result: interval(1000000000, 1000000000)},
		{a: interval(-1000000000, 999999999), b: interval(0, 1), result: interval(-1000000000, 1000000000)},
		{a: interval(-1000000000, 1000000000), b: interval(0, 0), result: interval(-1000000000, 1000000000)},
		{a: interval(1000000000, 1000000000), b: interval(-1000000000, -1000000000), result: interval(0, 0)},
		{a: interval(500000000, 500000000), b: interval(500000001, 500000001), code: impl.ErrLimit},
		{a: interval(-500000000, 0), b: interval(-500000001, 0), code: impl.ErrLimit},
		{a: interval(0, 1000000000), b: interval(0, 1), code: impl.ErrLimit},
		{a: interval(-1000000000, 0), b: interval(-1, 0), code: impl.ErrLimit},
		{a: interval(-1000000000, 1000000000), b: interval(-1000000000, 1000000000), code: impl.ErrLimit},
		{a: interval(1000000000, 1000000000), b: interval(1000000000, 1000000000), code: impl.ErrLimit},
		{a: interval(-1000000000, -1000000000), b: interval(-1000000000, -1000000000), code: impl.ErrLimit},
	})
	checkWrongPairs(t, "AddIntervals", impl.AddIntervals)
}

func TestSumsFollow(t *testing.T) {
	for _, a := range smallIntervals(4) {
		for _, b := range smallIntervals(4) {
			var sums []int64
			for _, m := range numbersOf(a) {
				for _, n := range numbersOf(b) {
					sums = append(sums, m+n)
				}
			}
			if result, code := impl.AddIntervals(a, b); code != impl.ErrNone || result != leastAround(sums) {
				t.Fatalf("AddIntervals(%d, %d) = %d, %d", a, b, result, code)
			}
		}
	}
}

func TestTimesInterval(t *testing.T) {
	type timesCase struct {
		a      impl.Interval
		n      int64
		result impl.Interval
		code   int64
	}
	cases := []timesCase{
		{a: interval(1, 5), n: -3, result: interval(-15, -3)},
		{a: interval(1, 5), n: 3, result: interval(3, 15)},
		{a: interval(-2, 5), n: -1, result: interval(-5, 2)},
		{a: interval(-5, -2), n: 1, result: interval(-5, -2)},
		{a: interval(-2, 5), n: 0},
		{a: interval(-1000000000, 1000000000), n: 0},
		{a: interval(-1000000000, 1000000000), n: 1, result: interval(-1000000000, 1000000000)},
		{a: interval(-1000000000, 999999999), n: -1, result: interval(-999999999, 1000000000)},
		{a: interval(0, 0), n: 1000000},
		{a: interval(0, 0), n: -1000000},
		{a: interval(-1000, 1000), n: 1000000, result: interval(-1000000000, 1000000000)},
		{a: interval(-1000, 999), n: -1000000, result: interval(-999000000, 1000000000)},
		{a: interval(0, 1001), n: 1000000, code: impl.ErrLimit},
		{a: interval(-1001, 0), n: 1000000, code: impl.ErrLimit},
		{a: interval(0, 1001), n: -1000000, code: impl.ErrLimit},
		{a: interval(-1001, 0), n: -1000000, code: impl.ErrLimit},
		{a: interval(500000001, 500000001), n: 2, code: impl.ErrLimit},
		{a: interval(333333333, 333333333), n: 3, result: interval(999999999, 999999999)},
		{a: interval(-1000000000, 1000000000), n: -1000000, code: impl.ErrLimit},
		{a: interval(1, 5), n: 1000001, code: impl.ErrRange},
		{a: interval(1, 5), n: -1000001, code: impl.ErrRange},
		{a: interval(0, 0), n: 1000001, code: impl.ErrRange},
		{a: interval(0, 1), n: math.MaxInt64, code: impl.ErrRange},
		{a: interval(0, 1), n: math.MinInt64, code: impl.ErrRange},
		{a: interval(-1000000000, 1000000000), n: 1000001, code: impl.ErrRange},
	}
	for _, wrong := range wrongIntervals() {
		for _, n := range []int64{0, 1, -1, 1000000, 1000001, -1000001, math.MinInt64} {
			cases = append(cases, timesCase{a: wrong, n: n, code: impl.ErrInvalid})
		}
	}
	for _, c := range cases {
		if result, code := impl.TimesInterval(c.a, c.n); code != c.code || result != c.result {
			t.Errorf("TimesInterval(%d, %d) = %d, %d, not %d, %d", c.a, c.n, result, code, c.result, c.code)
		}
	}
}

func TestProductsFollow(t *testing.T) {
	for _, a := range smallIntervals(6) {
		for n := int64(-6); n <= 6; n++ {
			var products []int64
			for _, m := range numbersOf(a) {
				products = append(products, m*n)
			}
			if result, code := impl.TimesInterval(a, n); code != impl.ErrNone || result != leastAround(products) {
				t.Fatalf("TimesInterval(%d, %d) = %d, %d", a, n, result, code)
			}
		}
	}
}

// oneCase is a call of a function of one interval, with its result.
type oneCase struct {
	a, result impl.Interval
	code      int64
}

func checkOnes(t *testing.T, name string, f func(impl.Interval) (impl.Interval, int64), cases []oneCase) {
	t.Helper()
	for _, wrong := range wrongIntervals() {
		cases = append(cases, oneCase{a: wrong, code: impl.ErrInvalid})
	}
	for _, c := range cases {
		if result, code := f(c.a); code != c.code || result != c.result {
			t.Errorf("%s(%d) = %d, %d, not %d, %d", name, c.a, result, code, c.result, c.code)
		}
	}
}

func TestSquareInterval(t *testing.T) {
	checkOnes(t, "SquareInterval", impl.SquareInterval, []oneCase{
		{a: interval(-2, 3), result: interval(0, 9)},
		{a: interval(-3, 2), result: interval(0, 9)},
		{a: interval(-3, 3), result: interval(0, 9)},
		{a: interval(2, 3), result: interval(4, 9)},
		{a: interval(-3, -2), result: interval(4, 9)},
		{a: interval(0, 3), result: interval(0, 9)},
		{a: interval(-3, 0), result: interval(0, 9)},
		{a: interval(-1, 1), result: interval(0, 1)},
		{a: interval(0, 0)},
		{a: interval(-4, -4), result: interval(16, 16)},
		{a: interval(31622, 31622), result: interval(999950884, 999950884)},
		{a: interval(-31622, 31622), result: interval(0, 999950884)},
		{a: interval(-31622, -31621), result: interval(999887641, 999950884)},
		{a: interval(0, 31623), code: impl.ErrLimit},
		{a: interval(31623, 31623), code: impl.ErrLimit},
		{a: interval(-31623, 31622), code: impl.ErrLimit},
		{a: interval(-31623, -31623), code: impl.ErrLimit},
		{a: interval(-1000000000, 1000000000), code: impl.ErrLimit},
		{a: interval(1000000000, 1000000000), code: impl.ErrLimit},
		{a: interval(-1000000000, -1000000000), code: impl.ErrLimit},
	})
}

func TestSquaresFollow(t *testing.T) {
	for _, a := range smallIntervals(12) {
		var squares []int64
		for _, m := range numbersOf(a) {
			squares = append(squares, m*m)
		}
		if result, code := impl.SquareInterval(a); code != impl.ErrNone || result != leastAround(squares) {
			t.Fatalf("SquareInterval(%d) = %d, %d", a, result, code)
		}
	}
}

func TestRootInterval(t *testing.T) {
	checkOnes(t, "RootInterval", impl.RootInterval, []oneCase{
		{a: interval(4, 10), result: interval(2, 4)},
		{a: interval(4, 9), result: interval(2, 3)},
		{a: interval(8, 8), result: interval(2, 3)},
		{a: interval(0, 0)},
		{a: interval(0, 1), result: interval(0, 1)},
		{a: interval(1, 2), result: interval(1, 2)},
		{a: interval(1000000000, 1000000000), result: interval(31622, 31623)},
		{a: interval(0, 1000000000), result: interval(0, 31623)},
		{a: interval(999950883, 999950884), result: interval(31621, 31622)},
		{a: interval(999950884, 999950885), result: interval(31622, 31623)},
		{a: interval(-1, 0), code: impl.ErrState},
		{a: interval(-1, 4), code: impl.ErrState},
		{a: interval(-5, -2), code: impl.ErrState},
		{a: interval(-1000000000, 1000000000), code: impl.ErrState},
		{a: interval(-1000000000, -1000000000), code: impl.ErrState},
	})
}

// checkRoots looks at the root of a single number, rounded down and rounded up.
func checkRoots(t *testing.T, n int64) {
	t.Helper()
	root, code := impl.RootInterval(interval(n, n))
	down, up := root.Low, root.High
	if code != impl.ErrNone || down < 0 || down*down > n || (down+1)*(down+1) <= n || up*up < n || up > 0 && (up-1)*(up-1) >= n {
		t.Fatalf("RootInterval of %d = %d, %d", n, root, code)
	}
}

func TestRootsFollow(t *testing.T) {
	for n := int64(0); n <= 20000; n++ {
		checkRoots(t, n)
		checkRoots(t, impl.MaxEnd-n)
	}
	for root := int64(1); root <= 31622; root++ {
		checkRoots(t, root*root-1)
		checkRoots(t, root*root)
		checkRoots(t, root*root+1)
	}
}

func TestMeetIntervals(t *testing.T) {
	checkPairs(t, "MeetIntervals", impl.MeetIntervals, []pairCase{
		{a: interval(1, 5), b: interval(3, 9), result: interval(3, 5)},
		{a: interval(1, 9), b: interval(3, 5), result: interval(3, 5)},
		{a: interval(1, 5), b: interval(5, 9), result: interval(5, 5)},
		{a: interval(-5, -2), b: interval(-2, 3), result: interval(-2, -2)},
		{a: interval(2, 2), b: interval(2, 2), result: interval(2, 2)},
		{a: interval(-3, 0), b: interval(0, 3)},
		{a: interval(-1000000000, 1000000000), b: interval(1000000000, 1000000000), result: interval(1000000000, 1000000000)},
		{a: interval(-1000000000, 1000000000), b: interval(-1000000000, 1000000000), result: interval(-1000000000, 1000000000)},
		{a: interval(1, 5), b: interval(6, 9), code: impl.ErrState},
		{a: interval(1, 1), b: interval(2, 2), code: impl.ErrState},
		{a: interval(-9, -6), b: interval(-5, 5), code: impl.ErrState},
		{a: interval(-1000000000, -1000000000), b: interval(1000000000, 1000000000), code: impl.ErrState},
	})
	checkWrongPairs(t, "MeetIntervals", impl.MeetIntervals)
}

func TestHullOf(t *testing.T) {
	checkPairs(t, "HullOf", impl.HullOf, []pairCase{
		{a: interval(1, 5), b: interval(3, 9), result: interval(1, 9)},
		{a: interval(1, 9), b: interval(3, 5), result: interval(1, 9)},
		{a: interval(1, 2), b: interval(8, 9), result: interval(1, 9)},
		{a: interval(-5, -2), b: interval(0, 0), result: interval(-5, 0)},
		{a: interval(4, 4), b: interval(4, 4), result: interval(4, 4)},
		{a: interval(-1000000000, -1000000000), b: interval(1000000000, 1000000000), result: interval(-1000000000, 1000000000)},
	})
	checkWrongPairs(t, "HullOf", impl.HullOf)
}

func TestIsSurelyLess(t *testing.T) {
	cases := []struct {
		a, b impl.Interval
		less bool
	}{
		{interval(1, 5), interval(3, 9), false},
		{interval(1, 5), interval(5, 9), false},
		{interval(1, 5), interval(6, 9), true},
		{interval(6, 9), interval(1, 5), false},
		{interval(0, 0), interval(0, 0), false},
		{interval(0, 0), interval(1, 1), true},
		{interval(-5, -2), interval(-1, 3), true},
		{interval(-5, -2), interval(-2, 3), false},
		{interval(-1000000000, -1000000000), interval(1000000000, 1000000000), true},
		{interval(-1000000000, 1000000000), interval(1000000000, 1000000000), false},
	}
	for _, c := range cases {
		if less, code := impl.IsSurelyLess(c.a, c.b); code != impl.ErrNone || less != c.less {
			t.Errorf("IsSurelyLess(%d, %d) = %t, %d", c.a, c.b, less, code)
		}
	}
	for _, wrong := range wrongIntervals() {
		for _, other := range append(wrongIntervals(), interval(0, 0), interval(-1000000000, -1000000000), interval(1000000000, 1000000000)) {
			if less, code := impl.IsSurelyLess(wrong, other); code != impl.ErrInvalid || less {
				t.Errorf("IsSurelyLess(%d, %d) = %t, %d", wrong, other, less, code)
			}
			if less, code := impl.IsSurelyLess(other, wrong); code != impl.ErrInvalid || less {
				t.Errorf("IsSurelyLess(%d, %d) = %t, %d", other, wrong, less, code)
			}
		}
	}
}

func TestWhatMeetsAndWhatIsLessFollows(t *testing.T) {
	for _, a := range smallIntervals(4) {
		for _, b := range smallIntervals(4) {
			var both []int64
			less := true
			for _, m := range numbersOf(a) {
				for _, n := range numbersOf(b) {
					less = less && m < n
					if m == n {
						both = append(both, m)
					}
				}
			}
			meet, code := impl.MeetIntervals(a, b)
			if len(both) == 0 && (code != impl.ErrState || meet != impl.Interval{}) || len(both) > 0 && (code != impl.ErrNone || meet != leastAround(both)) {
				t.Fatalf("MeetIntervals(%d, %d) = %d, %d", a, b, meet, code)
			}
			if result, code := impl.IsSurelyLess(a, b); code != impl.ErrNone || result != less {
				t.Fatalf("IsSurelyLess(%d, %d) = %t, %d", a, b, result, code)
			}
			if hull, code := impl.HullOf(a, b); code != impl.ErrNone || hull != leastAround(append(numbersOf(a), numbersOf(b)...)) {
				t.Fatalf("HullOf(%d, %d) = %d, %d", a, b, hull, code)
			}
		}
	}
}

func TestIntervalsAreRecovered(t *testing.T) {
	cases := []struct {
		a    impl.Interval
		text string
	}{
		{interval(1, 5), "1..5"},
		{interval(-5, -2), "-5..-2"},
		{interval(-2, 3), "-2..3"},
		{interval(0, 10), "0..10"},
		{interval(-1, 0), "-1..0"},
		{interval(0, 0), "0"},
		{interval(7, 7), "7"},
		{interval(-7, -7), "-7"},
		{interval(100, 1000), "100..1000"},
		{interval(-1000000000, 1000000000), "-1000000000..1000000000"},
		{interval(1000000000, 1000000000), "1000000000"},
		{interval(-1000000000, -1000000000), "-1000000000"},
		{interval(999999999, 1000000000), "999999999..1000000000"},
	}
	for _, c := range cases {
		if text, code := impl.IntervalText(c.a); code != impl.ErrNone || text != c.text {
			t.Errorf("IntervalText(%d) = %q, %d", c.a, text, code)
		}
		if a, code := impl.ReadInterval(c.text); code != impl.ErrNone || a != c.a {
			t.Errorf("ReadInterval(%q) = %d, %d", c.text, a, code)
		}
	}
	for _, a := range smallIntervals(40) {
		text, code := impl.IntervalText(a)
		if code != impl.ErrNone {
			t.Fatalf("IntervalText(%d) = %q, %d", a, text, code)
		}
		if read, code := impl.ReadInterval(text); code != impl.ErrNone || read != a {
			t.Fatalf("ReadInterval(%q) = %d, %d, not %d", text, read, code, a)
		}
	}
}

func TestIntervalTextErrors(t *testing.T) {
	for _, a := range wrongIntervals() {
		if text, code := impl.IntervalText(a); code != impl.ErrInvalid || text != "" {
			t.Errorf("IntervalText(%d) = %q, %d", a, text, code)
		}
	}
}

func TestReadIntervalErrors(t *testing.T) {
	wrong := []string{"", "-", ".", "..", "...", "1..", "..1", "1.5", "1...5", "1....5", "1..5.", "1..5..", "1..5..9", "..1..5", ".1..5", "1.", "1 .. 5",
		"5..1", "1..0", "-2..-5", "0..-1", "1000000000..-1000000000",
		"5..5", "0..0", "-5..-5", "1000000000..1000000000",
		"01", "00", "01..5", "1..05", "00..5", "-0", "-0..5", "-5..-0", "-05..5", "+1", "+1..5", "1..+5", "--1", "--1..5", "1..--5", "1-..5",
		" 1..5", "1..5 ", "1.. 5", "1..5\n", "\n1", "1\n", "1,5", "1-5", "1..a", "a..5", "a", "1e3", "0x1..5", "1_0", "1..1_0", "1..5\x00", "٣..5", "1…5",
		"1000000001", "-1000000001", "0..1000000001", "-1000000001..0", "1000000001..1000000002", "1..9223372036854775807", "1..9223372036854775808", "-9223372036854775809..1", "1..18446744073709551621", "-9223372036854775808",
		strings.Repeat("9", 1000), "1.." + strings.Repeat("9", 1000), "1" + strings.Repeat(".", 1000) + "5", strings.Repeat("1..", 1000) + "5"}
	for _, s := range wrong {
		if a, code := impl.ReadInterval(s); code != impl.ErrSyntax || a != (impl.Interval{}) {
			t.Errorf("ReadInterval(%q) = %d, %d", s, a, code)
		}
	}
}

func TestReadIntervalReadsNothingElse(t *testing.T) {
	form := regexp.MustCompile(`^(0|-?[1-9][0-9]*)(?:\.\.(0|-?[1-9][0-9]*))?$`)
	for _, s := range textsOver("019-+.", 7) {
		var want impl.Interval
		ends := form.FindStringSubmatch(s)
		right := ends != nil
		if right {
			want.Low, _ = strconv.ParseInt(ends[1], 10, 64)
			want.High = want.Low
		}
		if right && ends[2] != "" {
			want.High, _ = strconv.ParseInt(ends[2], 10, 64)
			right = want.Low < want.High
		}
		a, code := impl.ReadInterval(s)
		if right && (code != impl.ErrNone || a != want) || !right && (code != impl.ErrSyntax || a != impl.Interval{}) {
			t.Fatalf("ReadInterval(%q) = %d, %d", s, a, code)
		}
	}
}
