package tests

import (
	"math"
	"slices"
	"testing"

	"loop.example/g01050/impl"
)

func inFlange() []int64 { return []int64{6, 8, 10, 12, 16, 18, 20, 24} }

// wrongInFlange returns numbers that no flange has, also some that become one when they are
// doubled or cut to 32 bits.
func wrongInFlange() []int64 {
	return []int64{0, 1, 2, 3, 4, 5, 7, 9, 11, 13, 14, 15, 17, 19, 21, 22, 23, 25, 26, 28, 30, 32, 48, -1, -6, -8, -24, 1<<32 + 8, -1 << 32, math.MinInt64, math.MinInt64 + 8, math.MaxInt64}
}

// straight returns the lacing with the hole k at each place k.
func straight(n int64) []int64 {
	var list []int64
	for k := range n {
		list = append(list, k)
	}
	return list
}

func with(list []int64, place int64, hole int64) []int64 {
	list = slices.Clone(list)
	list[place] = hole
	return list
}

func exchanged(list []int64, k int64, l int64) []int64 {
	list = slices.Clone(list)
	list[k], list[l] = list[l], list[k]
	return list
}

// shuffled returns one of many lacings without an order, the same one for the same numbers.
func shuffled(n int64, seed uint64) []int64 {
	list := straight(n)
	for k := n - 1; k > 0; k-- {
		seed = seed*6364136223846793005 + 1442695040888963407
		list = exchanged(list, k, int64(seed>>33)%(k+1))
	}
	return list
}

func rightLacings(n int64) [][]int64 {
	backwards := straight(n)
	slices.Reverse(backwards)
	all := [][]int64{straight(n), backwards, exchanged(straight(n), 0, n-1), exchanged(straight(n), 1, n/2), exchanged(straight(n), 0, n/2)}
	for by := range n {
		all = append(all, append(straight(n)[by:], straight(n)[:by]...), append(slices.Clone(backwards[by:]), backwards[:by]...))
	}
	for crosses := range n / 2 {
		list := make([]int64, n)
		for k := int64(0); k < n; k += 2 {
			list[k] = (k + crosses) % n
			list[k+1] = (k + 1 + n - crosses) % n
		}
		all = append(all, list)
	}
	for seed := range uint64(40) {
		all = append(all, shuffled(n, seed))
	}
	return all
}

// wrongLacings returns lists that are no lacings with n numbers.
func wrongLacings(n int64) [][]int64 {
	list := straight(n)
	all := [][]int64{nil, {}, {0}, list[:n-1], list[1:], append(straight(n), n), append(straight(n), 0), append(straight(n), n-1), append(straight(n), straight(n)...), repeated(int(n), int64(0)), repeated(int(n), n-1)}
	for _, hole := range []int64{-1, n, n + 1, -n, 1 << 32, math.MinInt64, math.MaxInt64} {
		all = append(all, with(list, 0, hole), with(list, n/2, hole), with(list, n-1, hole))
	}
	for k := range n {
		all = append(all, with(list, k, (k+1)%n), with(list, k, (k+n/2)%n))
	}
	return append(all, straight(n + 1)[1:], append([]int64{-1}, list[:n-1]...))
}

// beyondPlaces returns numbers beyond 0..n - 1.
func beyondPlaces(n int64) []int64 {
	return []int64{-1, n, n + 1, -n, -n + 1, 2 * n, 1 << 32, math.MinInt64, math.MaxInt64}
}

// checkInvalid calls f with numbers of holes that no flange has, and with lists that are no
// lacings; f returns the code, and whether all else that its function returns is zero.
func checkInvalid(t *testing.T, name string, f func(n int64, list []int64) (int64, bool)) {
	t.Helper()
	check := func(n int64, list []int64) {
		t.Helper()
		before := slices.Clone(list)
		if code, zero := f(n, list); code != impl.ErrInvalid || !zero {
			t.Errorf("%s with %d, %d: %d, zero beside it: %v", name, n, list, code, zero)
		}
		if !slices.Equal(list, before) {
			t.Errorf("%s has changed %d to %d", name, before, list)
		}
	}
	for _, n := range wrongInFlange() {
		check(n, nil)
		check(n, straight(8))
		if n > 0 && n < 100 {
			check(n, straight(n))
		}
	}
	for _, n := range inFlange() {
		for _, list := range wrongLacings(n) {
			check(n, list)
		}
		for _, m := range inFlange() {
			if m != n {
				check(n, straight(m))
			}
		}
	}
}

// eachOrder calls f with all orders of 0 to n - 1, in one list that it changes between the calls.
func eachOrder(n int64, f func(list []int64)) {
	list := straight(n)
	var order func(from int64)
	order = func(from int64) {
		if from == n {
			f(list)
			return
		}
		for k := from; k < n; k++ {
			list[from], list[k] = list[k], list[from]
			order(from + 1)
			list[from], list[k] = list[k], list[from]
		}
	}
	order(0)
}

// expectedShift looks for the shift among all numbers that it may be.
func expectedShift(n int64, place int64, hole int64) int64 {
	for shift := -n / 2; ; shift++ {
		if (place+shift-hole)%n == 0 {
			return shift
		}
	}
}

// expectedCrossings rolls the wheel out: each spoke stands at its place in every turn, and two
// spokes cross if one of them is in front of the other at the rim and behind it at the flange.
func expectedCrossings(n int64, list []int64) []int64 {
	counts := make([]int64, n)
	for k := range n {
		for l := range k {
			for turn := int64(-2); turn <= 2; turn++ {
				atRim := l + turn*n - k
				atFlange := atRim + expectedShift(n, l, list[l]) - expectedShift(n, k, list[k])
				if atRim < 0 && atFlange > 0 || atRim > 0 && atFlange < 0 {
					counts[k]++
					counts[l]++
				}
			}
		}
	}
	return counts
}

func crossingsOfAll(t *testing.T, n int64, list []int64) []int64 {
	t.Helper()
	var counts []int64
	for k := range n {
		count, code := impl.CrossingsOf(n, list, k)
		if code != impl.ErrNone {
			t.Fatalf("CrossingsOf(%d, %d, %d) = %d, %d", n, list, k, count, code)
		}
		counts = append(counts, count)
	}
	return counts
}

func mirrorOf(t *testing.T, n int64, list []int64) []int64 {
	t.Helper()
	mirrored, code := impl.MirrorLacing(n, list)
	if code != impl.ErrNone {
		t.Fatalf("MirrorLacing(%d, %d) = %d, %d", n, list, mirrored, code)
	}
	return mirrored
}

func TestIsLacing(t *testing.T) {
	for _, n := range inFlange() {
		for _, list := range rightLacings(n) {
			before := slices.Clone(list)
			if !impl.IsLacing(n, list) {
				t.Errorf("IsLacing(%d, %d) = false", n, list)
			}
			if !slices.Equal(list, before) {
				t.Errorf("IsLacing has changed %d to %d", before, list)
			}
		}
	}
	checkInvalid(t, "IsLacing", func(n int64, list []int64) (int64, bool) {
		return impl.ErrInvalid, !impl.IsLacing(n, list)
	})
}

func TestEveryNumberInFlange(t *testing.T) {
	for n := int64(0); n <= 100; n++ {
		for length := int64(0); length <= 100; length++ {
			want := n == length && slices.Contains(inFlange(), n)
			if got := impl.IsLacing(n, straight(length)); got != want {
				t.Errorf("IsLacing(%d, 0 to %d - 1) = %v", n, length, got)
			}
		}
	}
}

func TestAllListsWithSixNumbers(t *testing.T) {
	const n, values = 6, 8
	count := 0
	for code := range values * values * values * values * values * values {
		var list []int64
		for range n {
			list = append(list, int64(code%values)-1)
			code /= values
		}
		sorted := slices.Clone(list)
		slices.Sort(sorted)
		want := slices.Equal(sorted, straight(n))
		if impl.IsLacing(n, list) != want {
			t.Fatalf("IsLacing(%d, %d) = %v", n, list, !want)
		}
		if want {
			count++
		}
	}
	if count != 720 {
		t.Errorf("%d lacings with six numbers", count)
	}
}

func TestUsualLacing(t *testing.T) {
	cases := []struct {
		n, crosses int64
		want       []int64
	}{
		{6, 0, []int64{0, 1, 2, 3, 4, 5}},
		{6, 1, []int64{1, 0, 3, 2, 5, 4}},
		{6, 2, []int64{2, 5, 4, 1, 0, 3}},
		{8, 0, []int64{0, 1, 2, 3, 4, 5, 6, 7}},
		{8, 1, []int64{1, 0, 3, 2, 5, 4, 7, 6}},
		{8, 2, []int64{2, 7, 4, 1, 6, 3, 0, 5}},
		{8, 3, []int64{3, 6, 5, 0, 7, 2, 1, 4}},
		{10, 4, []int64{4, 7, 6, 9, 8, 1, 0, 3, 2, 5}},
		{16, 3, []int64{3, 14, 5, 0, 7, 2, 9, 4, 11, 6, 13, 8, 15, 10, 1, 12}},
		{18, 8, []int64{8, 11, 10, 13, 12, 15, 14, 17, 16, 1, 0, 3, 2, 5, 4, 7, 6, 9}},
	}
	for _, c := range cases {
		if list, code := impl.UsualLacing(c.n, c.crosses); code != impl.ErrNone || !slices.Equal(list, c.want) {
			t.Errorf("UsualLacing(%d, %d) = %d, %d, not %d", c.n, c.crosses, list, code, c.want)
		}
	}
}

func TestEveryUsualLacing(t *testing.T) {
	for _, n := range inFlange() {
		for crosses := range n / 2 {
			list, code := impl.UsualLacing(n, crosses)
			if code != impl.ErrNone || !impl.IsLacing(n, list) {
				t.Fatalf("UsualLacing(%d, %d) = %d, %d", n, crosses, list, code)
			}
			shifts, code := impl.ShiftsOf(n, list)
			for k, shift := range shifts {
				want := crosses
				if k%2 == 1 {
					want = -crosses
				}
				if shift != want {
					t.Errorf("ShiftsOf(%d, %d) = %d, %d: %d at %d", n, list, shifts, code, shift, k)
				}
			}
			if even, code := impl.EvenCrossings(n, list); code != impl.ErrNone || even != crosses {
				t.Errorf("EvenCrossings(%d, %d) = %d, %d, not %d", n, list, even, code, crosses)
			}
		}
	}
}

func TestUsualLacingErrors(t *testing.T) {
	check := func(n int64, crosses int64, want int64) {
		t.Helper()
		if list, code := impl.UsualLacing(n, crosses); code != want || len(list) != 0 {
			t.Errorf("UsualLacing(%d, %d) = %d, %d, not %d", n, crosses, list, code, want)
		}
	}
	for _, n := range wrongInFlange() {
		for _, crosses := range []int64{0, 1, n / 2, n/2 - 1, -1, math.MinInt64, math.MaxInt64} {
			check(n, crosses, impl.ErrInvalid)
		}
	}
	for _, n := range inFlange() {
		for _, crosses := range []int64{-1, n / 2, n/2 + 1, n - 1, n, -n / 2, 1 << 32, math.MinInt64, math.MaxInt64} {
			check(n, crosses, impl.ErrRange)
		}
	}
}

func TestShiftsOf(t *testing.T) {
	cases := []struct{ list, want []int64 }{
		{[]int64{0, 1, 2, 3, 4, 5}, []int64{0, 0, 0, 0, 0, 0}},
		{[]int64{5, 4, 3, 2, 1, 0}, []int64{-1, -3, 1, -1, -3, 1}},
		// Two places on is the greatest shift, three places on the least one.
		{[]int64{2, 3, 4, 5, 0, 1}, []int64{2, 2, 2, 2, 2, 2}},
		{[]int64{3, 4, 5, 0, 1, 2}, []int64{-3, -3, -3, -3, -3, -3}},
		{[]int64{4, 5, 0, 1, 2, 3}, []int64{-2, -2, -2, -2, -2, -2}},
		{[]int64{2, 5, 4, 1, 0, 3}, []int64{2, -2, 2, -2, 2, -2}},
		{[]int64{3, 1, 2, 0, 4, 7, 6, 5}, []int64{3, 0, 0, -3, 0, 2, 0, -2}},
		{[]int64{4, 1, 2, 3, 0, 5, 6, 7}, []int64{-4, 0, 0, 0, -4, 0, 0, 0}},
		{[]int64{7, 1, 2, 3, 4, 5, 6, 0}, []int64{-1, 0, 0, 0, 0, 0, 0, 1}},
		{[]int64{5, 1, 2, 3, 4, 0, 6, 7}, []int64{-3, 0, 0, 0, 0, 3, 0, 0}},
	}
	for _, c := range cases {
		if shifts, code := impl.ShiftsOf(int64(len(c.list)), c.list); code != impl.ErrNone || !slices.Equal(shifts, c.want) {
			t.Errorf("ShiftsOf(%d) = %d, %d, not %d", c.list, shifts, code, c.want)
		}
	}
	checkInvalid(t, "ShiftsOf", func(n int64, list []int64) (int64, bool) {
		shifts, code := impl.ShiftsOf(n, list)
		return code, len(shifts) == 0
	})
}

func TestEveryShift(t *testing.T) {
	for _, n := range inFlange() {
		for place := range n {
			for hole := range n {
				list := exchanged(straight(n), place, hole)
				shifts, code := impl.ShiftsOf(n, list)
				if code != impl.ErrNone || int64(len(shifts)) != n {
					t.Fatalf("ShiftsOf(%d, %d) = %d, %d", n, list, shifts, code)
				}
				for k, shift := range shifts {
					if shift != expectedShift(n, int64(k), list[k]) {
						t.Errorf("ShiftsOf(%d, %d) = %d: %d at %d", n, list, shifts, shift, k)
					}
				}
			}
		}
	}
}

// crossingsCases are lacings with the numbers of crossings at all places.
func crossingsCases() []struct{ list, counts []int64 } {
	return []struct{ list, counts []int64 }{
		{[]int64{0, 1, 2, 3, 4, 5}, []int64{0, 0, 0, 0, 0, 0}},
		{[]int64{1, 0, 2, 3, 4, 5}, []int64{1, 1, 0, 0, 0, 0}},
		{[]int64{5, 1, 2, 3, 4, 0}, []int64{1, 0, 0, 0, 0, 1}},
		{[]int64{2, 1, 0, 3, 4, 5}, []int64{2, 2, 2, 0, 0, 0}},
		// The spokes at 0 and 3 both go three places back, and cross those in front of them.
		{[]int64{3, 1, 2, 0, 4, 5}, []int64{2, 1, 1, 2, 1, 1}},
		// Two spokes go two places on, and two go two places back.
		{[]int64{2, 3, 0, 1, 4, 5}, []int64{2, 2, 2, 2, 0, 0}},
		{[]int64{1, 2, 3, 4, 5, 0}, []int64{0, 0, 0, 0, 0, 0}},
		{[]int64{3, 4, 5, 0, 1, 2}, []int64{0, 0, 0, 0, 0, 0}},
		{[]int64{3, 6, 5, 0, 7, 2, 1, 4}, []int64{3, 3, 3, 3, 3, 3, 3, 3}},
		// A spoke that has moved three places on crosses those that have moved back for it.
		{[]int64{3, 0, 1, 2, 4, 5, 6, 7}, []int64{3, 1, 1, 1, 0, 0, 0, 0}},
		{[]int64{1, 2, 3, 0, 4, 5, 6, 7}, []int64{1, 1, 1, 3, 0, 0, 0, 0}},
		{[]int64{3, 1, 2, 0, 4, 5, 6, 7}, []int64{3, 2, 2, 3, 0, 0, 0, 0}},
	}
}

func TestCrossingsOf(t *testing.T) {
	for _, c := range crossingsCases() {
		n := int64(len(c.list))
		if counts := crossingsOfAll(t, n, c.list); !slices.Equal(counts, c.counts) {
			t.Errorf("CrossingsOf(%d, %d) = %d, not %d", n, c.list, counts, c.counts)
		}
		if counts := expectedCrossings(n, c.list); !slices.Equal(counts, c.counts) {
			t.Errorf("%d: rolled out %d, not %d", c.list, counts, c.counts)
		}
	}
}

func TestCrossingsOfAllLacings(t *testing.T) {
	check := func(n int64, list []int64) {
		t.Helper()
		want := expectedCrossings(n, list)
		if counts := crossingsOfAll(t, n, list); !slices.Equal(counts, want) {
			t.Fatalf("CrossingsOf(%d, %d) = %d, not %d", n, list, counts, want)
		}
		even, code := impl.EvenCrossings(n, list)
		if slices.Max(want) != slices.Min(want) {
			if code != impl.ErrState || even != 0 {
				t.Fatalf("EvenCrossings(%d, %d) = %d, %d", n, list, even, code)
			}
		} else if code != impl.ErrNone || even != want[0] {
			t.Fatalf("EvenCrossings(%d, %d) = %d, %d, not %d", n, list, even, code, want[0])
		}
	}
	eachOrder(6, func(list []int64) { check(6, list) })
	eachOrder(8, func(list []int64) { check(8, list) })
	for _, n := range inFlange() {
		for _, list := range rightLacings(n) {
			check(n, list)
		}
	}
}

// TestPairsThatCross exchanges the holes of two spokes that are d places apart. For spokes that are
// next to each other that is the limit of crossing: the difference of their shifts is 2, or -2 the
// other way round, and 0 where the holes are not exchanged.
func TestPairsThatCross(t *testing.T) {
	for _, n := range inFlange() {
		for first := range n {
			for d := int64(1); d < n/2; d++ {
				last := (first + d) % n
				list := exchanged(straight(n), first, last)
				want := make([]int64, n)
				for k := first + 1; k < first+d; k++ {
					want[k%n] = 2
				}
				want[first], want[last] = d, d
				if counts := crossingsOfAll(t, n, list); !slices.Equal(counts, want) {
					t.Fatalf("CrossingsOf(%d, %d) = %d, not %d", n, list, counts, want)
				}
			}
		}
	}
}

// TestDifferencesOfShifts shows why no lacing tells whether spokes cross at a difference of d or
// d - n: two spokes would come from one hole. All other limits occur.
func TestDifferencesOfShifts(t *testing.T) {
	for _, n := range []int64{6, 8} {
		seen := map[[2]int64]bool{}
		eachOrder(n, func(list []int64) {
			shifts, _ := impl.ShiftsOf(n, list)
			for k := range n {
				for d := int64(1); d < n; d++ {
					seen[[2]int64{d, shifts[k] - shifts[(k+d)%n]}] = true
				}
			}
		})
		for d := int64(1); d < n; d++ {
			for difference := 1 - n; difference <= n-1; difference++ {
				want := difference != d && difference != d-n
				if seen[[2]int64{d, difference}] != want {
					t.Errorf("%d spokes, %d places behind: difference %d occurs: %v", n, d, difference, !want)
				}
			}
		}
	}
}

// TestCrossingIsMutual moves one spoke past others. It alone crosses them, so that each of them
// crosses one spoke, and all of them together as many as it does.
func TestCrossingIsMutual(t *testing.T) {
	for _, n := range inFlange() {
		for from := range n {
			for to := range n {
				list := slices.Insert(slices.Delete(straight(n), int(from), int(from+1)), int(to), from)
				want := max(from-to, to-from)
				if from-to >= n/2 || to-from > n/2 {
					// The way around the other side is the shorter one.
					want = n - want - 1
				}
				counts := crossingsOfAll(t, n, list)
				own := counts[to]
				others := slices.Delete(counts, int(to), int(to+1))
				sum := int64(0)
				for _, count := range others {
					sum += count
				}
				if own != want || sum != want || slices.Max(others) > 1 {
					t.Fatalf("%d: the spoke at %d crosses %d, not %d, and the others cross %d", list, to, own, want, others)
				}
			}
		}
	}
}

func TestCrossingsAreCountedTwice(t *testing.T) {
	for _, n := range inFlange() {
		for _, list := range rightLacings(n) {
			sum := int64(0)
			for _, count := range crossingsOfAll(t, n, list) {
				sum += count
			}
			if sum%2 != 0 {
				t.Errorf("%d: the crossings of all spokes add up to %d", list, sum)
			}
		}
	}
}

func TestCrossingsOfErrors(t *testing.T) {
	checkInvalid(t, "CrossingsOf", func(n int64, list []int64) (int64, bool) {
		zero := true
		for _, place := range []int64{-1, 0, 5, n - 1, n, math.MinInt64, math.MaxInt64} {
			count, code := impl.CrossingsOf(n, list, place)
			if code != impl.ErrInvalid {
				return code, false
			}
			zero = zero && count == 0
		}
		return impl.ErrInvalid, zero
	})
	for _, n := range inFlange() {
		list := shuffled(n, 1)
		for _, place := range beyondPlaces(n) {
			if count, code := impl.CrossingsOf(n, list, place); code != impl.ErrRange || count != 0 {
				t.Errorf("CrossingsOf(%d, %d, %d) = %d, %d", n, list, place, count, code)
			}
		}
	}
}

func TestEvenCrossings(t *testing.T) {
	for _, c := range crossingsCases() {
		want, wantCode := c.counts[0], int64(impl.ErrNone)
		if slices.Max(c.counts) != slices.Min(c.counts) {
			want, wantCode = 0, impl.ErrState
		}
		if even, code := impl.EvenCrossings(int64(len(c.list)), c.list); code != wantCode || even != want {
			t.Errorf("EvenCrossings(%d) = %d, %d, not %d, %d", c.list, even, code, want, wantCode)
		}
	}
	for _, n := range inFlange() {
		for k := range n {
			// One pair alone crosses, wherever it is.
			list := exchanged(straight(n), k, (k+1)%n)
			if even, code := impl.EvenCrossings(n, list); code != impl.ErrState || even != 0 {
				t.Errorf("EvenCrossings(%d, %d) = %d, %d", n, list, even, code)
			}
		}
	}
	checkInvalid(t, "EvenCrossings", func(n int64, list []int64) (int64, bool) {
		even, code := impl.EvenCrossings(n, list)
		return code, even == 0
	})
}

func TestMirrorLacing(t *testing.T) {
	cases := []struct{ list, want []int64 }{
		{[]int64{0, 1, 2, 3, 4, 5}, []int64{0, 1, 2, 3, 4, 5}},
		// The place 0 has the hole 2, and the place 4 the hole 0.
		{[]int64{2, 5, 4, 1, 0, 3}, []int64{4, 3, 0, 5, 2, 1}},
		{[]int64{0, 2, 1, 4, 3, 5}, []int64{0, 1, 3, 2, 5, 4}},
		{[]int64{1, 0, 3, 2, 5, 4, 7, 6}, []int64{7, 2, 1, 4, 3, 6, 5, 0}},
		{[]int64{4, 1, 2, 3, 0, 5, 6, 7}, []int64{4, 1, 2, 3, 0, 5, 6, 7}},
	}
	for _, c := range cases {
		if mirrored := mirrorOf(t, int64(len(c.list)), c.list); !slices.Equal(mirrored, c.want) {
			t.Errorf("MirrorLacing(%d) = %d, not %d", c.list, mirrored, c.want)
		}
	}
	checkInvalid(t, "MirrorLacing", func(n int64, list []int64) (int64, bool) {
		mirrored, code := impl.MirrorLacing(n, list)
		return code, len(mirrored) == 0
	})
}

func TestMirroringTwiceChangesNothing(t *testing.T) {
	check := func(n int64, list []int64) {
		t.Helper()
		mirrored := mirrorOf(t, n, list)
		for k, hole := range list {
			if mirrored[(n-int64(k))%n] != (n-hole)%n {
				t.Fatalf("MirrorLacing(%d, %d) = %d", n, list, mirrored)
			}
		}
		if !impl.IsLacing(n, mirrored) || int64(len(mirrored)) != n {
			t.Fatalf("MirrorLacing(%d, %d) = %d", n, list, mirrored)
		}
		if twice := mirrorOf(t, n, mirrored); !slices.Equal(twice, list) {
			t.Fatalf("MirrorLacing(%d, %d) = %d, not %d", n, mirrored, twice, list)
		}
	}
	eachOrder(6, func(list []int64) { check(6, list) })
	for _, n := range inFlange() {
		for _, list := range rightLacings(n) {
			check(n, list)
		}
	}
}

func TestRotateLacing(t *testing.T) {
	cases := []struct {
		list []int64
		by   int64
		want []int64
	}{
		{[]int64{2, 5, 4, 1, 0, 3}, 0, []int64{2, 5, 4, 1, 0, 3}},
		{[]int64{2, 5, 4, 1, 0, 3}, 1, []int64{3, 0, 5, 2, 1, 4}},
		{[]int64{2, 5, 4, 1, 0, 3}, 3, []int64{5, 2, 1, 4, 3, 0}},
		{[]int64{2, 5, 4, 1, 0, 3}, 5, []int64{1, 4, 3, 0, 5, 2}},
		{[]int64{1, 0, 3, 2, 5, 4, 7, 6}, 7, []int64{0, 7, 2, 1, 4, 3, 6, 5}},
	}
	for _, c := range cases {
		if rotated, code := impl.RotateLacing(int64(len(c.list)), c.list, c.by); code != impl.ErrNone || !slices.Equal(rotated, c.want) {
			t.Errorf("RotateLacing(%d, %d) = %d, %d, not %d", c.list, c.by, rotated, code, c.want)
		}
	}
	for _, n := range inFlange() {
		for _, list := range rightLacings(n) {
			for by := range n {
				rotated, code := impl.RotateLacing(n, list, by)
				if code != impl.ErrNone || !impl.IsLacing(n, rotated) {
					t.Fatalf("RotateLacing(%d, %d, %d) = %d, %d", n, list, by, rotated, code)
				}
				for k, hole := range rotated {
					if (hole-list[k]+n)%n != by {
						t.Fatalf("RotateLacing(%d, %d, %d) = %d", n, list, by, rotated)
					}
				}
				if back, code := impl.RotateLacing(n, rotated, (n-by)%n); code != impl.ErrNone || !slices.Equal(back, list) {
					t.Fatalf("RotateLacing(%d, %d, %d) = %d, %d, not %d", n, rotated, (n-by)%n, back, code, list)
				}
			}
		}
	}
}

func TestRotateLacingErrors(t *testing.T) {
	checkInvalid(t, "RotateLacing", func(n int64, list []int64) (int64, bool) {
		zero := true
		for _, by := range []int64{-1, 0, 5, n - 1, n, math.MinInt64, math.MaxInt64} {
			rotated, code := impl.RotateLacing(n, list, by)
			if code != impl.ErrInvalid {
				return code, false
			}
			zero = zero && len(rotated) == 0
		}
		return impl.ErrInvalid, zero
	})
	for _, n := range inFlange() {
		list := shuffled(n, 2)
		for _, by := range beyondPlaces(n) {
			if rotated, code := impl.RotateLacing(n, list, by); code != impl.ErrRange || len(rotated) != 0 {
				t.Errorf("RotateLacing(%d, %d, %d) = %d, %d", n, list, by, rotated, code)
			}
		}
	}
}

func TestMovesBetween(t *testing.T) {
	cases := []struct{ a, b, want []int64 }{
		{[]int64{0, 1, 2, 3, 4, 5}, []int64{0, 1, 2, 3, 4, 5}, nil},
		{[]int64{0, 1, 2, 3, 4, 5}, []int64{5, 1, 2, 3, 4, 0}, []int64{0, 5}},
		{[]int64{0, 1, 2, 3, 4, 5}, []int64{0, 4, 1, 3, 2, 5}, []int64{1, 2, 4}},
		{[]int64{2, 5, 4, 1, 0, 3}, []int64{5, 2, 1, 4, 3, 0}, []int64{0, 1, 2, 3, 4, 5}},
		{[]int64{1, 0, 3, 2, 5, 4, 7, 6}, []int64{1, 0, 2, 3, 5, 4, 6, 7}, []int64{2, 3, 6, 7}},
	}
	for _, c := range cases {
		n := int64(len(c.a))
		for _, pair := range [][2][]int64{{c.a, c.b}, {c.b, c.a}} {
			if moves, code := impl.MovesBetween(n, pair[0], pair[1]); code != impl.ErrNone || !slices.Equal(moves, c.want) {
				t.Errorf("MovesBetween(%d, %d) = %d, %d, not %d", pair[0], pair[1], moves, code, c.want)
			}
		}
	}
	for _, n := range inFlange() {
		for i, a := range rightLacings(n) {
			for j, b := range rightLacings(n)[i:] {
				var want []int64
				for k := range n {
					if a[k] != b[k] {
						want = append(want, k)
					}
				}
				if moves, code := impl.MovesBetween(n, a, b); code != impl.ErrNone || !slices.Equal(moves, want) || j == 0 && len(moves) > 0 {
					t.Fatalf("MovesBetween(%d, %d, %d) = %d, %d, not %d", n, a, b, moves, code, want)
				}
			}
		}
	}
}

func TestMovesBetweenErrors(t *testing.T) {
	checkInvalid(t, "MovesBetween", func(n int64, list []int64) (int64, bool) {
		right := straight(8)
		if slices.Contains(inFlange(), n) {
			right = straight(n)
		}
		zero := true
		for _, pair := range [][2][]int64{{list, right}, {right, list}, {list, list}, {list, nil}} {
			moves, code := impl.MovesBetween(n, pair[0], pair[1])
			if code != impl.ErrInvalid {
				return code, false
			}
			zero = zero && len(moves) == 0
		}
		return impl.ErrInvalid, zero
	})
}

func TestSwapSpokes(t *testing.T) {
	list := []int64{2, 5, 4, 1, 0, 3}
	cases := []struct {
		k, l int64
		want []int64
	}{
		{0, 1, []int64{5, 2, 4, 1, 0, 3}},
		{0, 5, []int64{3, 5, 4, 1, 0, 2}},
		{5, 0, []int64{3, 5, 4, 1, 0, 2}},
		{4, 2, []int64{2, 5, 0, 1, 4, 3}},
		{0, 0, list},
		{3, 3, list},
		{5, 5, list},
	}
	for _, c := range cases {
		if swapped, code := impl.SwapSpokes(6, list, c.k, c.l); code != impl.ErrNone || !slices.Equal(swapped, c.want) {
			t.Errorf("SwapSpokes(%d, %d, %d) = %d, %d, not %d", list, c.k, c.l, swapped, code, c.want)
		}
	}
	for _, n := range inFlange() {
		list := shuffled(n, 3)
		for k := range n {
			for l := range n {
				swapped, code := impl.SwapSpokes(n, list, k, l)
				if code != impl.ErrNone || !slices.Equal(swapped, exchanged(list, k, l)) {
					t.Fatalf("SwapSpokes(%d, %d, %d, %d) = %d, %d", n, list, k, l, swapped, code)
				}
				want := []int64{min(k, l), max(k, l)}
				if k == l {
					want = nil
				}
				if moves, code := impl.MovesBetween(n, list, swapped); code != impl.ErrNone || !slices.Equal(moves, want) {
					t.Fatalf("MovesBetween(%d, %d, %d) = %d, %d, not %d", n, list, swapped, moves, code, want)
				}
			}
		}
	}
}

func TestSwapSpokesErrors(t *testing.T) {
	checkInvalid(t, "SwapSpokes", func(n int64, list []int64) (int64, bool) {
		zero := true
		for _, place := range []int64{-1, 0, 5, n - 1, n, math.MinInt64, math.MaxInt64} {
			for _, other := range []int64{place, 0} {
				swapped, code := impl.SwapSpokes(n, list, place, other)
				if code != impl.ErrInvalid {
					return code, false
				}
				zero = zero && len(swapped) == 0
			}
		}
		return impl.ErrInvalid, zero
	})
	for _, n := range inFlange() {
		list := shuffled(n, 4)
		for _, place := range beyondPlaces(n) {
			for _, pair := range [][2]int64{{place, 0}, {0, place}, {place, n - 1}, {n - 1, place}, {place, place}} {
				if swapped, code := impl.SwapSpokes(n, list, pair[0], pair[1]); code != impl.ErrRange || len(swapped) != 0 {
					t.Errorf("SwapSpokes(%d, %d, %d) = %d, %d", n, list, pair, swapped, code)
				}
			}
		}
	}
}

// listsOfChapter6 returns what the functions of chapter 6 return that take one lacing and return a
// list.
func listsOfChapter6(n int64, list []int64) map[string][]int64 {
	all := map[string][]int64{}
	all["ShiftsOf"], _ = impl.ShiftsOf(n, list)
	all["MirrorLacing"], _ = impl.MirrorLacing(n, list)
	all["RotateLacing"], _ = impl.RotateLacing(n, list, 1)
	all["RotateLacing by 0"], _ = impl.RotateLacing(n, list, 0)
	all["MovesBetween, first"], _ = impl.MovesBetween(n, list, straight(n))
	all["MovesBetween, second"], _ = impl.MovesBetween(n, straight(n), list)
	all["MovesBetween, both"], _ = impl.MovesBetween(n, list, list)
	all["SwapSpokes"], _ = impl.SwapSpokes(n, list, 0, n-1)
	all["SwapSpokes with itself"], _ = impl.SwapSpokes(n, list, 2, 2)
	impl.IsLacing(n, list)
	impl.CrossingsOf(n, list, 0)
	impl.EvenCrossings(n, list)
	return all
}

func TestArgumentsOfChapter6AreLeftAlone(t *testing.T) {
	for _, n := range inFlange() {
		// What is behind the lacing stands in its spare capacity.
		whole := append(shuffled(n, 5), 70, 80, 90)
		before := slices.Clone(whole)
		results := listsOfChapter6(n, whole[:n])
		if !slices.Equal(whole, before) {
			t.Errorf("an argument, or what is behind it, was changed from %d to %d", before, whole)
		}
		listsOfChapter6(n, whole)
		listsOfChapter6(n, whole[:n-1])
		if !slices.Equal(whole, before) {
			t.Errorf("an argument beside an error was changed from %d to %d", before, whole)
		}
		for name, result := range results {
			result = result[:cap(result)]
			for i := range result {
				result[i] = 100
			}
			if !slices.Equal(whole, before) {
				t.Fatalf("the result of %s shares memory with its argument", name)
			}
		}
		for name, again := range listsOfChapter6(n, whole[:n]) {
			if slices.Contains(again, 100) {
				t.Errorf("two results of %s share memory", name)
			}
		}
	}
}

func TestResultsOfUsualLacingShareNoMemory(t *testing.T) {
	for _, n := range inFlange() {
		first, _ := impl.UsualLacing(n, 1)
		first[0], first[n-1] = 100, 100
		if second, code := impl.UsualLacing(n, 1); code != impl.ErrNone || slices.Contains(second, 100) {
			t.Errorf("UsualLacing(%d, 1) = %d, %d after an earlier result was changed", n, second, code)
		}
	}
}
