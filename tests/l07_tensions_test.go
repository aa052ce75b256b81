package tests

import (
	"math"
	"slices"
	"testing"

	"loop.example/g01050/impl"
)

// someTensions returns tensions from low to high without an order, the same ones for the same
// numbers.
func someTensions(n int, low int64, high int64, seed uint64) []int64 {
	var list []int64
	for range n {
		seed = seed*6364136223846793005 + 1442695040888963407
		list = append(list, low+int64(seed>>33)%(high-low+1))
	}
	return list
}

func rightTensions() [][]int64 {
	all := [][]int64{{100, 100, 100, 100}, {0, 3000, 0, 3000}, {3000, 0, 0, 0}, {0, 0, 0, 3000}, {90, 100, 110, 100}, {0, 1, 2999, 3000, 1}}
	for n := 4; n <= 48; n++ {
		all = append(all, repeated(n, int64(0)), repeated(n, int64(3000)), someTensions(n, 0, 3000, uint64(n)), someTensions(n, 900, 1100, uint64(n)))
	}
	return all
}

func wrongTensions() [][]int64 {
	all := [][]int64{nil, {}, {100}, {100, 100}, {100, 100, 100}, repeated(49, int64(100)), repeated(50, int64(0)), repeated(96, int64(100)), repeated(1000, int64(3000)), {-1, 5000, 0}}
	for _, n := range []int{4, 5, 48} {
		for _, tension := range beyondTensions() {
			list := repeated(n, int64(100))
			all = append(all, with(list, 0, tension), with(list, 2, tension), with(list, int64(n-1), tension), repeated(n, tension))
		}
	}
	return all
}

// beyondTensions returns numbers beyond 0..3000.
func beyondTensions() []int64 {
	return []int64{-1, 3001, -3000, 30000, 1<<32 + 100, -1<<32 + 100, math.MinInt64, math.MinInt64 + 100, math.MaxInt64}
}

func rightStiffnesses() [][]int64 {
	return [][]int64{
		{1}, {10}, {200},
		{10, -2}, {1, 0}, {1, 200}, {200, 200}, {200, -99}, {199, -99}, {3, -1},
		{10, 3, -1}, {1, -200, 200}, {200, -200, 101}, {200, 200, -200}, {5, 0, 7},
		{1, 0, 0, 0}, {200, 200, 200, 200}, {200, -33, -33, -33}, {10, 4, -3, 1}, {7, 200, -3, -200}, {2, -1, 0, 1}, {30, 0, 0, -14},
	}
}

func wrongStiffnesses() [][]int64 {
	all := [][]int64{
		nil, {}, {1, 0, 0, 0, 0}, {200, 1, 1, 1, 1}, repeated(48, int64(1)), repeated(1000, int64(200)),
		{0}, {-1}, {-200}, {0, 0}, {0, 100}, {0, 200, 200, 200}, {-1, 200}, {-200, 200, 200, 200},
		{200, -100}, {2, -1}, {10, -5}, {10, -6}, {1, -1}, {10, -200}, {200, -200, 100}, {200, -200, -200, -200}, {200, -34, -33, -33}, {198, -33, -33, -33}, {1, 200, -200, -1},
	}
	for _, n := range []int64{-201, 201, 1 << 32, -1 << 32, 1<<32 + 1, math.MinInt64, math.MaxInt64, 1 << 62, -1 << 62} {
		all = append(all, []int64{n}, []int64{10, n}, []int64{10, 1, n}, []int64{10, 1, 1, n}, []int64{n, 1, 1, 1}, []int64{10, n, n, 1}, []int64{10, 1, n, -n})
	}
	return all
}

// beyondQuarters returns numbers beyond -100..100.
func beyondQuarters() []int64 {
	return []int64{-101, 101, -200, 1000, 1 << 32, 1<<32 + 1, -1 << 32, math.MinInt64, math.MaxInt64}
}

// expectedTurns follows the document by places: it asks of each spoke how far it is from each
// other one, counted both ways. It does not look at any ranges.
func expectedTurns(list []int64, s []int64, turns []int64) []int64 {
	n := len(list)
	after := slices.Clone(list)
	for turned, quarters := range turns {
		if quarters == 0 {
			continue
		}
		for d, number := range s {
			for spoke := range n {
				if (turned+d)%n == spoke {
					after[spoke] += quarters * number
				}
				if d > 0 && (spoke+d)%n == turned {
					after[spoke] += quarters * number
				}
			}
		}
	}
	return after
}

func areInTensions(list []int64) bool {
	return slices.Min(list) >= 0 && slices.Max(list) <= 3000
}

// turnOfOne returns the turns of which only one spoke has some quarters.
func turnOfOne(n int, spoke int, quarters int64) []int64 {
	return with(make([]int64, n), int64(spoke), quarters)
}

// meanOf looks for the nearest integer to the mean, the greater one of two, from a number that may
// be anywhere, and of tensions that may be anywhere.
func meanOf(list []int64) int64 {
	n, sum := int64(len(list)), int64(0)
	for _, tension := range list {
		sum += tension
	}
	mean := sum / n
	for 2*sum >= (2*mean+1)*n {
		mean++
	}
	for 2*sum < (2*mean-1)*n {
		mean--
	}
	return mean
}

// checkNoTensions calls f with lists that are no tensions; f returns the code, and whether all
// else that its function returns is zero.
func checkNoTensions(t *testing.T, name string, f func(list []int64) (int64, bool)) {
	t.Helper()
	for _, list := range wrongTensions() {
		before := slices.Clone(list)
		if code, zero := f(list); code != impl.ErrInvalid || !zero {
			t.Errorf("%s with %d: %d, zero beside it: %v", name, list, code, zero)
		}
		if !slices.Equal(list, before) {
			t.Errorf("%s has changed %d to %d", name, before, list)
		}
	}
}

// checkNoStiffness calls f with tensions or a stiffness that are not as described; f returns the
// code, and whether all else that its function returns is zero.
func checkNoStiffness(t *testing.T, name string, f func(list []int64, s []int64) (int64, bool)) {
	t.Helper()
	check := func(list []int64, s []int64) {
		t.Helper()
		if code, zero := f(list, s); code != impl.ErrInvalid || !zero {
			t.Errorf("%s with %d, %d: %d, zero beside it: %v", name, list, s, code, zero)
		}
	}
	for _, list := range wrongTensions() {
		check(list, []int64{10, -2})
		check(list, nil)
		check(list, []int64{2, -1})
	}
	for _, s := range wrongStiffnesses() {
		check([]int64{100, 100, 100, 100}, s)
		check([]int64{0, 3000, 0, 3000, 0}, s)
		check(repeated(48, int64(1500)), s)
	}
}

func TestConstantsOfChapter7(t *testing.T) {
	if impl.MaxTension != 3000 || impl.MaxSpokes != 48 || impl.MaxReach != 4 || impl.MaxQuarters != 100 {
		t.Error("limits", impl.MaxTension, impl.MaxSpokes, impl.MaxReach, impl.MaxQuarters)
	}
}

func TestAreTensions(t *testing.T) {
	for _, list := range rightTensions() {
		before := slices.Clone(list)
		if !impl.AreTensions(list) {
			t.Errorf("AreTensions(%d) = false", list)
		}
		if !slices.Equal(list, before) {
			t.Errorf("AreTensions has changed %d to %d", before, list)
		}
	}
	checkNoTensions(t, "AreTensions", func(list []int64) (int64, bool) {
		return impl.ErrInvalid, !impl.AreTensions(list)
	})
	for n := range 100 {
		if got, want := impl.AreTensions(repeated(n, int64(100))), n >= 4 && n <= 48; got != want {
			t.Errorf("AreTensions of %d = %v", n, got)
		}
	}
	for tension := int64(-100); tension <= 3100; tension++ {
		if got, want := impl.AreTensions([]int64{100, 100, tension, 100}), tension >= 0 && tension <= 3000; got != want {
			t.Errorf("AreTensions with %d = %v", tension, got)
		}
	}
}

func TestIsStiffness(t *testing.T) {
	for _, s := range rightStiffnesses() {
		before := slices.Clone(s)
		if !impl.IsStiffness(s) {
			t.Errorf("IsStiffness(%d) = false", s)
		}
		if !slices.Equal(s, before) {
			t.Errorf("IsStiffness has changed %d to %d", before, s)
		}
	}
	for _, s := range wrongStiffnesses() {
		if impl.IsStiffness(s) {
			t.Errorf("IsStiffness(%d) = true", s)
		}
	}
}

func TestEveryShortStiffness(t *testing.T) {
	isNumber := func(n int64) bool { return n >= -200 && n <= 200 }
	for first := int64(-203); first <= 203; first++ {
		if got, want := impl.IsStiffness([]int64{first}), isNumber(first) && first > 0; got != want {
			t.Errorf("IsStiffness(%d) = %v", first, got)
		}
		for second := int64(-203); second <= 203; second++ {
			want := isNumber(first) && isNumber(second) && first > 0 && 2*second > -first
			if got := impl.IsStiffness([]int64{first, second}); got != want {
				t.Errorf("IsStiffness(%d, %d) = %v", first, second, got)
			}
			// What one of the others takes away, another one of them gives back.
			want = isNumber(first) && isNumber(second) && first > 0
			if got := impl.IsStiffness([]int64{first, second, 0, -second}); got != want {
				t.Errorf("IsStiffness(%d, %d, 0, %d) = %v", first, second, -second, got)
			}
		}
	}
}

func TestTurnNipple(t *testing.T) {
	even := []int64{100, 100, 100, 100, 100, 100, 100, 100}
	cases := []struct {
		list, s         []int64
		spoke, quarters int64
		want            []int64
	}{
		{[]int64{100, 100, 100, 100}, []int64{10, -2}, 0, 1, []int64{110, 98, 100, 98}},
		{[]int64{100, 100, 100, 100}, []int64{10, -2}, 3, -1, []int64{102, 100, 102, 90}},
		{[]int64{100, 200, 300, 400}, []int64{10, -2}, 2, 0, []int64{100, 200, 300, 400}},
		{[]int64{100, 200, 300, 400}, []int64{7}, 1, 3, []int64{100, 221, 300, 400}},
		{even, []int64{10, 3, -2, 1}, 0, 1, []int64{110, 103, 98, 101, 100, 101, 98, 103}},
		{even, []int64{10, 3, -2, 1}, 5, 2, []int64{102, 100, 102, 96, 106, 120, 106, 96}},
		{even, []int64{10, 3, -2, 1}, 7, -10, []int64{70, 120, 90, 100, 90, 120, 70, 0}},
		// Of four spokes the opposite one gets two parts, and the ones beside get two different ones.
		{[]int64{100, 100, 100, 100}, []int64{10, 0, 3}, 0, 1, []int64{110, 100, 106, 100}},
		{[]int64{100, 100, 100, 100}, []int64{10, 3, -1, 20}, 1, 2, []int64{146, 120, 146, 96}},
		// Of five spokes two are both two and three places away.
		{[]int64{100, 100, 100, 100, 100}, []int64{40, 1, 3, -20}, 2, 1, []int64{83, 101, 140, 101, 83}},
		// Of six spokes the opposite one is three places away.
		{[]int64{100, 100, 100, 100, 100, 100}, []int64{40, 1, 2, -20}, 5, 1, []int64{101, 102, 60, 102, 101, 140}},
		{[]int64{1500, 1500, 1500, 1500}, []int64{15, 0, -7}, 0, 100, []int64{3000, 1500, 100, 1500}},
		{[]int64{1500, 1500, 1500, 1500}, []int64{15, 0, -7}, 0, -100, []int64{0, 1500, 2900, 1500}},
	}
	for _, c := range cases {
		if after, code := impl.TurnNipple(c.list, c.s, c.spoke, c.quarters); code != impl.ErrNone || !slices.Equal(after, c.want) {
			t.Errorf("TurnNipple(%d, %d, %d, %d) = %d, %d, not %d", c.list, c.s, c.spoke, c.quarters, after, code, c.want)
		}
	}
}

func TestEveryNipple(t *testing.T) {
	for n := 4; n <= 48; n++ {
		list := someTensions(n, 1000, 2000, uint64(n))
		for _, s := range rightStiffnesses() {
			for spoke := range n {
				for _, quarters := range []int64{-100, -9, -1, 0, 1, 2, 50, 100} {
					want, wantCode := expectedTurns(list, s, turnOfOne(n, spoke, quarters)), int64(impl.ErrNone)
					if !areInTensions(want) {
						want, wantCode = nil, impl.ErrLimit
					}
					if after, code := impl.TurnNipple(list, s, int64(spoke), quarters); code != wantCode || !slices.Equal(after, want) {
						t.Fatalf("TurnNipple(%d, %d, %d, %d) = %d, %d, not %d, %d", list, s, spoke, quarters, after, code, want, wantCode)
					}
				}
			}
		}
	}
}

// TestLimitsOfTurning ends just at 0 or 3000, and one beyond, at the spoke that is turned and at
// each one that its turn reaches.
func TestLimitsOfTurning(t *testing.T) {
	for _, n := range []int{4, 5, 6, 7, 8, 48} {
		for _, s := range rightStiffnesses() {
			for _, quarters := range []int64{-3, -1, 1, 3} {
				turned := n - 1
				change := expectedTurns(make([]int64, n), s, turnOfOne(n, turned, quarters))
				for spoke, c := range change {
					if c == 0 {
						continue
					}
					list := repeated(n, int64(1500))
					list[spoke] = 3000 - c
					beyond := int64(1)
					if c < 0 {
						list[spoke] = -c
						beyond = -1
					}
					want := expectedTurns(list, s, turnOfOne(n, turned, quarters))
					if after, code := impl.TurnNipple(list, s, int64(turned), quarters); code != impl.ErrNone || !slices.Equal(after, want) {
						t.Errorf("TurnNipple(%d, %d, %d, %d) = %d, %d, not %d", list, s, turned, quarters, after, code, want)
					}
					list[spoke] += beyond
					if after, code := impl.TurnNipple(list, s, int64(turned), quarters); code != impl.ErrLimit || len(after) != 0 {
						t.Errorf("TurnNipple(%d, %d, %d, %d) = %d, %d", list, s, turned, quarters, after, code)
					}
				}
			}
		}
	}
}

// A spoke that gets several parts has to be in its range only when it has got all of them.
func TestPartsThatMakeUpForOthers(t *testing.T) {
	cases := []struct{ list, s, want []int64 }{
		// The spokes beside the first one get 200 and -200.
		{[]int64{0, 3000, 0, 0}, []int64{1, 200, 0, -200}, []int64{1, 3000, 0, 0}},
		{[]int64{0, 0, 0, 3000}, []int64{1, -200, 0, 200}, []int64{1, 0, 0, 3000}},
		{[]int64{0, 0, 3000, 0, 0}, []int64{1, 0, -200, 200}, []int64{1, 0, 3000, 0, 0}},
	}
	for _, c := range cases {
		if after, code := impl.TurnNipple(c.list, c.s, 0, 1); code != impl.ErrNone || !slices.Equal(after, c.want) {
			t.Errorf("TurnNipple(%d, %d, 0, 1) = %d, %d, not %d", c.list, c.s, after, code, c.want)
		}
	}
}

func TestTurnNippleErrors(t *testing.T) {
	checkNoStiffness(t, "TurnNipple", func(list []int64, s []int64) (int64, bool) {
		zero := true
		for _, spoke := range []int64{-1, 0, 3, 48, math.MinInt64, math.MaxInt64} {
			for _, quarters := range []int64{-101, 0, 100, math.MaxInt64} {
				after, code := impl.TurnNipple(list, s, spoke, quarters)
				if code != impl.ErrInvalid {
					return code, false
				}
				zero = zero && len(after) == 0
			}
		}
		return impl.ErrInvalid, zero
	})
	check := func(list []int64, spoke int64, quarters int64, want int64) {
		t.Helper()
		s := []int64{200, 1}
		if after, code := impl.TurnNipple(list, s, spoke, quarters); code != want || len(after) != 0 {
			t.Errorf("TurnNipple(%d, %d, %d, %d) = %d, %d, not %d", list, s, spoke, quarters, after, code, want)
		}
	}
	for _, n := range []int64{4, 5, 47, 48} {
		for _, tension := range []int64{0, 1500, 3000} {
			list := repeated(int(n), tension)
			for _, spoke := range beyondPlaces(n) {
				for _, quarters := range []int64{0, 1, 100, 101, math.MinInt64} {
					check(list, spoke, quarters, impl.ErrRange)
				}
			}
			for _, quarters := range beyondQuarters() {
				check(list, 0, quarters, impl.ErrRange)
				check(list, n-1, quarters, impl.ErrRange)
			}
			for _, spoke := range []int64{0, 1, n - 1} {
				check(list, spoke, 100, impl.ErrLimit)
				check(list, spoke, -100, impl.ErrLimit)
			}
		}
	}
}

func TestTurnAll(t *testing.T) {
	cases := []struct{ list, s, turns, want []int64 }{
		{[]int64{100, 100, 100, 100}, []int64{10, -2}, []int64{1, 1, 1, 1}, []int64{106, 106, 106, 106}},
		{[]int64{100, 100, 100, 100}, []int64{10, -2}, []int64{0, 0, 0, 0}, []int64{100, 100, 100, 100}},
		{[]int64{100, 100, 100, 100}, []int64{10, -2}, []int64{1, 0, -1, 0}, []int64{110, 100, 90, 100}},
		{[]int64{100, 100, 100, 100}, []int64{10, -2}, []int64{0, 3, 0, -2}, []int64{98, 130, 98, 80}},
		{[]int64{100, 200, 300, 400, 500}, []int64{10, 1, 2, 3}, []int64{0, 1, 0, 0, -1}, []int64{100, 205, 296, 404, 495}},
		{[]int64{0, 0, 0, 3000}, []int64{30}, []int64{100, 0, 1, -100}, []int64{3000, 0, 30, 0}},
	}
	for _, c := range cases {
		if after, code := impl.TurnAll(c.list, c.s, c.turns); code != impl.ErrNone || !slices.Equal(after, c.want) {
			t.Errorf("TurnAll(%d, %d, %d) = %d, %d, not %d", c.list, c.s, c.turns, after, code, c.want)
		}
	}
}

func TestManyTurnsOfAll(t *testing.T) {
	limited, kept := 0, 0
	for n := 4; n <= 48; n++ {
		list := someTensions(n, 800, 2200, uint64(n))
		for seed, s := range rightStiffnesses() {
			for _, most := range []int64{1, 5, 30, 100} {
				turns := someTensions(n, -most, most, uint64(100*n+seed))
				want, wantCode := expectedTurns(list, s, turns), int64(impl.ErrNone)
				kept++
				if !areInTensions(want) {
					want, wantCode = nil, impl.ErrLimit
					limited++
				}
				if after, code := impl.TurnAll(list, s, turns); code != wantCode || !slices.Equal(after, want) {
					t.Fatalf("TurnAll(%d, %d, %d) = %d, %d, not %d, %d", list, s, turns, after, code, want, wantCode)
				}
			}
		}
	}
	if kept -= limited; kept < 1000 || limited < 1000 {
		t.Errorf("%d turns keep the limits, and %d do not", kept, limited)
	}
}

// TestTurningAtOnce turns nipples of which one cannot be turned after those before it.
func TestTurningAtOnce(t *testing.T) {
	cases := []struct{ list, s, turns, want []int64 }{
		{[]int64{3000, 3000, 3000, 3000}, []int64{10, 5}, []int64{1, -1, 1, -1}, []int64{3000, 3000, 3000, 3000}},
		{[]int64{0, 0, 0, 0, 0}, []int64{100, -20}, []int64{1, 1, 1, 1, 1}, []int64{60, 60, 60, 60, 60}},
		{[]int64{3000, 3000, 3000, 3000}, []int64{100, -30}, []int64{-1, -1, -1, -1}, []int64{2960, 2960, 2960, 2960}},
		{[]int64{0, 3000, 0, 3000, 0, 3000}, []int64{2, 1}, []int64{1, -1, 1, -1, 1, -1}, []int64{0, 3000, 0, 3000, 0, 3000}},
		{[]int64{3000, 0, 0, 0}, []int64{200, 100}, []int64{-1, 1, 0, 1}, []int64{3000, 100, 200, 100}},
		{repeated(48, int64(0)), []int64{200, -33, -33, -33}, repeated(48, int64(100)), repeated(48, int64(200))},
	}
	for _, c := range cases {
		if after, code := impl.TurnAll(c.list, c.s, c.turns); code != impl.ErrNone || !slices.Equal(after, c.want) {
			t.Errorf("TurnAll(%d, %d, %d) = %d, %d, not %d", c.list, c.s, c.turns, after, code, c.want)
		}
		after, code := c.list, int64(impl.ErrNone)
		for spoke := 0; spoke < len(c.turns) && code == impl.ErrNone; spoke++ {
			after, code = impl.TurnNipple(after, c.s, int64(spoke), c.turns[spoke])
		}
		if code != impl.ErrLimit {
			t.Errorf("%d, %d, %d, one after another: %d, %d", c.list, c.s, c.turns, after, code)
		}
	}
}

func TestTurnAllErrors(t *testing.T) {
	checkNoStiffness(t, "TurnAll", func(list []int64, s []int64) (int64, bool) {
		zero := true
		for _, turns := range [][]int64{nil, {0, 0, 0, 0}, {101, 0, 0, 0}, make([]int64, len(list)), repeated(len(list), int64(100)), repeated(len(list), int64(101))} {
			after, code := impl.TurnAll(list, s, turns)
			if code != impl.ErrInvalid {
				return code, false
			}
			zero = zero && len(after) == 0
		}
		return impl.ErrInvalid, zero
	})
	check := func(list []int64, turns []int64, want int64) {
		t.Helper()
		s := []int64{200, 1}
		if after, code := impl.TurnAll(list, s, turns); code != want || len(after) != 0 {
			t.Errorf("TurnAll(%d, %d, %d) = %d, %d, not %d", list, s, turns, after, code, want)
		}
	}
	for _, n := range []int{4, 5, 47, 48} {
		for _, tension := range []int64{0, 1500, 3000} {
			list := repeated(n, tension)
			for _, length := range []int{0, 1, 3, n - 1, n + 1, 2 * n, 49, 1000} {
				for _, quarters := range []int64{0, 1, 100, 101} {
					if length != n {
						check(list, repeated(length, quarters), impl.ErrRange)
					}
				}
			}
			for _, quarters := range beyondQuarters() {
				for _, spoke := range []int{0, 1, n - 1} {
					check(list, turnOfOne(n, spoke, quarters), impl.ErrRange)
					check(list, with(repeated(n, int64(100)), int64(spoke), quarters), impl.ErrRange)
				}
			}
			check(list, repeated(n, int64(100)), impl.ErrLimit)
			check(list, repeated(n, int64(-100)), impl.ErrLimit)
			check(list, turnOfOne(n, n-1, 100), impl.ErrLimit)
			check(list, turnOfOne(n, 0, -100), impl.ErrLimit)
		}
	}
}

func TestLimitsOfTurningAll(t *testing.T) {
	for _, n := range []int{4, 5, 48} {
		for _, s := range rightStiffnesses() {
			for _, quarters := range []int64{-1, 1} {
				turns := repeated(n, quarters)
				change := expectedTurns(make([]int64, n), s, turns)[0]
				list := repeated(n, 1500-change)
				edge := 1500 + 1500*quarters
				list[n-1] = edge - change
				want := with(repeated(n, int64(1500)), int64(n-1), edge)
				if after, code := impl.TurnAll(list, s, turns); code != impl.ErrNone || !slices.Equal(after, want) {
					t.Errorf("TurnAll(%d, %d, %d) = %d, %d, not %d", list, s, turns, after, code, want)
				}
				list[n-1] += quarters
				if after, code := impl.TurnAll(list, s, turns); code != impl.ErrLimit || len(after) != 0 {
					t.Errorf("TurnAll(%d, %d, %d) = %d, %d", list, s, turns, after, code)
				}
			}
		}
	}
}

// TestTurningBackUndoesTurning turns each nipple back that could be turned.
func TestTurningBackUndoesTurning(t *testing.T) {
	turned := 0
	for _, list := range rightTensions() {
		for _, s := range rightStiffnesses() {
			for spoke := range int64(len(list)) {
				for _, quarters := range []int64{-100, -7, -1, 0, 1, 2, 30, 100} {
					after, code := impl.TurnNipple(list, s, spoke, quarters)
					if code == impl.ErrLimit {
						continue
					}
					turned++
					if quarters != 0 && slices.Equal(after, list) {
						t.Fatalf("TurnNipple(%d, %d, %d, %d) = %d, %d", list, s, spoke, quarters, after, code)
					}
					if back, backCode := impl.TurnNipple(after, s, spoke, -quarters); code != impl.ErrNone || backCode != impl.ErrNone || !slices.Equal(back, list) {
						t.Fatalf("TurnNipple(%d, %d, %d, %d) = %d, %d, not %d", after, s, spoke, -quarters, back, backCode, list)
					}
				}
			}
		}
	}
	if turned < 10000 {
		t.Errorf("only %d nipples were turned", turned)
	}
}

func TestTurningAllBackUndoesTurningAll(t *testing.T) {
	turned := 0
	for seed, list := range rightTensions() {
		for _, s := range rightStiffnesses() {
			for _, most := range []int64{1, 3, 20, 100} {
				turns := someTensions(len(list), -most, most, uint64(seed))
				after, code := impl.TurnAll(list, s, turns)
				if code == impl.ErrLimit {
					continue
				}
				turned++
				var back []int64
				for _, quarters := range turns {
					back = append(back, -quarters)
				}
				if again, backCode := impl.TurnAll(after, s, back); code != impl.ErrNone || backCode != impl.ErrNone || !slices.Equal(again, list) {
					t.Fatalf("TurnAll(%d, %d, %d) = %d, %d, not %d", after, s, back, again, backCode, list)
				}
			}
		}
	}
	if turned < 1000 {
		t.Errorf("only %d wheels were turned", turned)
	}
}

// TestTurningOneAfterAnother leads where turning at once leads, where it is possible.
func TestTurningOneAfterAnother(t *testing.T) {
	for n := 4; n <= 48; n++ {
		list := someTensions(n, 1400, 1600, uint64(n))
		for seed, s := range rightStiffnesses() {
			turns := someTensions(n, -1, 1, uint64(seed))
			want, code := impl.TurnAll(list, s, turns)
			if code != impl.ErrNone {
				t.Fatalf("TurnAll(%d, %d, %d) = %d, %d", list, s, turns, want, code)
			}
			after := list
			for spoke, quarters := range turns {
				after, code = impl.TurnNipple(after, s, int64(spoke), quarters)
				if code != impl.ErrNone {
					t.Fatalf("TurnNipple at %d of %d, %d, %d: %d", spoke, list, s, turns, code)
				}
			}
			if !slices.Equal(after, want) {
				t.Errorf("TurnAll(%d, %d, %d) = %d, one after another %d", list, s, turns, want, after)
			}
		}
	}
}

func TestSumMeanAndSpread(t *testing.T) {
	cases := []struct {
		list              []int64
		sum, mean, spread int64
	}{
		{[]int64{100, 100, 100, 100}, 400, 100, 0},
		{[]int64{90, 100, 110, 100}, 400, 100, 20},
		{[]int64{0, 0, 0, 0}, 0, 0, 0},
		{[]int64{0, 0, 0, 1}, 1, 0, 1},
		// Halfway between two integers the greater one counts.
		{[]int64{0, 1, 0, 1}, 2, 1, 1},
		{[]int64{1, 1, 1, 0}, 3, 1, 1},
		{[]int64{100, 101, 101, 100}, 402, 101, 1},
		{[]int64{2999, 2999, 3000, 3000}, 11998, 3000, 1},
		{[]int64{101, 100, 100, 100}, 401, 100, 1},
		{[]int64{10, 10, 10, 10, 12}, 52, 10, 2},
		{[]int64{10, 10, 10, 10, 13}, 53, 11, 3},
		{[]int64{3000, 0, 0, 0, 0, 3}, 3003, 501, 3000},
		{[]int64{3000, 0, 0, 0, 0, 2}, 3002, 500, 3000},
		{[]int64{5, 4, 3, 2, 1}, 15, 3, 4},
		{[]int64{2, 5, 1, 4, 3, 0}, 15, 3, 5},
		{repeated(48, int64(0)), 0, 0, 0},
		{repeated(48, int64(3000)), 144000, 3000, 0},
		{with(repeated(48, int64(0)), 47, 23), 23, 0, 23},
		{with(repeated(48, int64(0)), 47, 24), 24, 1, 24},
	}
	for _, c := range cases {
		if sum, code := impl.SumOfTensions(c.list); code != impl.ErrNone || sum != c.sum {
			t.Errorf("SumOfTensions(%d) = %d, %d, not %d", c.list, sum, code, c.sum)
		}
		if mean, code := impl.MeanTension(c.list); code != impl.ErrNone || mean != c.mean || meanOf(c.list) != c.mean {
			t.Errorf("MeanTension(%d) = %d, %d, not %d", c.list, mean, code, c.mean)
		}
		if spread, code := impl.SpreadOf(c.list); code != impl.ErrNone || spread != c.spread {
			t.Errorf("SpreadOf(%d) = %d, %d, not %d", c.list, spread, code, c.spread)
		}
	}
	for _, list := range rightTensions() {
		want := int64(0)
		for _, tension := range list {
			want += tension
		}
		if sum, code := impl.SumOfTensions(list); code != impl.ErrNone || sum != want {
			t.Errorf("SumOfTensions(%d) = %d, %d, not %d", list, sum, code, want)
		}
		if mean, code := impl.MeanTension(list); code != impl.ErrNone || mean != meanOf(list) {
			t.Errorf("MeanTension(%d) = %d, %d, not %d", list, mean, code, meanOf(list))
		}
		if spread, code := impl.SpreadOf(list); code != impl.ErrNone || spread != slices.Max(list)-slices.Min(list) {
			t.Errorf("SpreadOf(%d) = %d, %d", list, spread, code)
		}
	}
}

// TestEveryRemainderOfMeans has all sums from one mean to the next one, for all numbers of spokes.
func TestEveryRemainderOfMeans(t *testing.T) {
	for n := 4; n <= 48; n++ {
		list := repeated(n, int64(100))
		for more := range n {
			list[more]++
			want := int64(100)
			if 2*(more+1) >= n {
				want = 101
			}
			if mean, code := impl.MeanTension(list); code != impl.ErrNone || mean != want {
				t.Errorf("MeanTension(%d) = %d, %d, not %d", list, mean, code, want)
			}
		}
	}
}

func TestErrorsOfSumMeanAndSpread(t *testing.T) {
	functions := map[string]func([]int64) (int64, int64){"SumOfTensions": impl.SumOfTensions, "MeanTension": impl.MeanTension, "SpreadOf": impl.SpreadOf}
	for name, f := range functions {
		checkNoTensions(t, name, func(list []int64) (int64, bool) {
			n, code := f(list)
			return code, n == 0
		})
	}
}

func TestOutOfBand(t *testing.T) {
	cases := []struct {
		list    []int64
		percent int64
		want    []int64
	}{
		{[]int64{90, 100, 110, 100}, 5, []int64{0, 2}},
		{[]int64{90, 100, 110, 100}, 9, []int64{0, 2}},
		{[]int64{90, 100, 110, 100}, 10, nil},
		{[]int64{89, 100, 110, 101}, 10, []int64{0}},
		{[]int64{90, 99, 111, 100}, 10, []int64{2}},
		{[]int64{90, 100, 110, 100}, 0, []int64{0, 2}},
		{[]int64{100, 100, 100, 100}, 0, nil},
		{[]int64{100, 101, 99, 100}, 0, []int64{1, 2}},
		{[]int64{100, 101, 99, 100}, 1, nil},
		// The whole mean is as far as a tension can lie below it.
		{[]int64{0, 100, 200, 100}, 100, nil},
		{[]int64{0, 99, 201, 100}, 100, []int64{2}},
		{[]int64{0, 0, 0, 3000}, 100, []int64{3}},
		// The mean is rounded to 101, of which 1 percent is 1.01.
		{[]int64{100, 101, 102, 99}, 1, []int64{3}},
		{[]int64{99, 102, 101, 100}, 0, []int64{0, 1, 3}},
		// Of 150, 1 percent is 1.5, and 2 percent are 3.
		{[]int64{149, 151, 148, 152}, 1, []int64{2, 3}},
		{[]int64{147, 153, 146, 154}, 2, []int64{2, 3}},
		// A mean of 0 has no band at all.
		{[]int64{0, 0, 0, 0}, 0, nil},
		{[]int64{0, 0, 0, 0}, 100, nil},
		{[]int64{0, 1, 0, 0}, 100, []int64{1}},
		{[]int64{0, 1, 0, 0}, 0, []int64{1}},
		{[]int64{3000, 3000, 3000, 3000}, 0, nil},
		{[]int64{0, 3000, 0, 3000, 0, 3000}, 99, []int64{0, 1, 2, 3, 4, 5}},
		{[]int64{0, 3000, 0, 3000, 0, 3000}, 100, nil},
	}
	for _, c := range cases {
		if out, code := impl.OutOfBand(c.list, c.percent); code != impl.ErrNone || !slices.Equal(out, c.want) {
			t.Errorf("OutOfBand(%d, %d) = %d, %d, not %d", c.list, c.percent, out, code, c.want)
		}
	}
	for _, list := range rightTensions() {
		mean := meanOf(list)
		for percent := range int64(101) {
			var want []int64
			for spoke, tension := range list {
				if 100*tension < (100-percent)*mean || 100*tension > (100+percent)*mean {
					want = append(want, int64(spoke))
				}
			}
			if out, code := impl.OutOfBand(list, percent); code != impl.ErrNone || !slices.Equal(out, want) {
				t.Fatalf("OutOfBand(%d, %d) = %d, %d, not %d", list, percent, out, code, want)
			}
		}
	}
}

func TestOutOfBandErrors(t *testing.T) {
	checkNoTensions(t, "OutOfBand", func(list []int64) (int64, bool) {
		zero := true
		for _, percent := range []int64{-1, 0, 50, 100, 101, math.MinInt64, math.MaxInt64} {
			out, code := impl.OutOfBand(list, percent)
			if code != impl.ErrInvalid {
				return code, false
			}
			zero = zero && len(out) == 0
		}
		return impl.ErrInvalid, zero
	})
	for _, list := range [][]int64{{90, 100, 110, 100}, {0, 0, 0, 0}, repeated(48, int64(3000))} {
		for _, percent := range []int64{-1, 101, -100, 1000, 1 << 32, 1<<32 + 5, math.MinInt64, math.MaxInt64} {
			if out, code := impl.OutOfBand(list, percent); code != impl.ErrRange || len(out) != 0 {
				t.Errorf("OutOfBand(%d, %d) = %d, %d", list, percent, out, code)
			}
		}
	}
}

func TestTurnsForMean(t *testing.T) {
	even, halfway := []int64{100, 100, 100, 100}, []int64{100, 101, 100, 101}
	cases := []struct {
		list, s    []int64
		mean, want int64
	}{
		{[]int64{90, 100, 110, 100}, []int64{10, -2}, 112, 2},
		{even, []int64{10, -2}, 100, 0},
		{even, []int64{10, -2}, 101, 1},
		{even, []int64{10, -2}, 106, 1},
		{even, []int64{10, -2}, 107, 2},
		{even, []int64{10, -2}, 113, 3},
		{even, []int64{10, -2}, 99, -1},
		{even, []int64{10, -2}, 94, -1},
		{even, []int64{10, -2}, 93, -2},
		{even, []int64{10, -2}, 88, -2},
		{even, []int64{10, -2}, 87, -3},
		{even, []int64{10, -2}, 0, -17},
		{even, []int64{10, -2}, 3000, 484},
		{even, []int64{10, 0, -1, 1}, 110, 1},
		{even, []int64{10, 0, -1, 1}, 111, 2},
		// The mean is 100.5, which counts as 101, and turns lead from halfway to halfway.
		{halfway, []int64{10}, 101, 0},
		{halfway, []int64{10}, 111, 1},
		{halfway, []int64{10}, 112, 2},
		{halfway, []int64{10}, 100, -1},
		{halfway, []int64{10}, 91, -1},
		{halfway, []int64{10}, 90, -2},
		{halfway, []int64{1}, 0, -101},
		// 100.25 counts as 100, and 100.75 as 101.
		{[]int64{100, 100, 100, 101}, []int64{10}, 100, 0},
		{[]int64{100, 100, 100, 101}, []int64{10}, 110, 1},
		{[]int64{100, 100, 100, 101}, []int64{10}, 111, 2},
		{[]int64{100, 100, 100, 101}, []int64{10}, 90, -1},
		{[]int64{100, 101, 101, 101}, []int64{10}, 111, 1},
		{[]int64{100, 101, 101, 101}, []int64{10}, 91, -1},
		{[]int64{100, 101, 101, 101}, []int64{10}, 90, -2},
		// More than 100 quarter turns, and tensions far beyond their range on the way.
		{[]int64{0, 0, 0, 0}, []int64{1}, 3000, 3000},
		{[]int64{3000, 3000, 3000, 3000}, []int64{1}, 0, -3000},
		{[]int64{0, 0, 0, 0}, []int64{200, -33, -33, -33}, 3000, 1500},
		{[]int64{0, 3000, 0, 3000}, []int64{200, 200, 200, 200}, 3000, 2},
		{[]int64{0, 3000, 0, 3000}, []int64{200, 200, 200, 200}, 0, -2},
		{[]int64{0, 0, 0, 0}, []int64{200, 200, 200, 200}, 0, 0},
		{[]int64{0, 0, 0, 0}, []int64{200, 200, 200, 200}, 1, 1},
		{repeated(48, int64(3000)), []int64{200, 200, 200, 200}, 3000, 0},
		{repeated(48, int64(3000)), []int64{200, 200, 200, 200}, 2999, -1},
	}
	for _, c := range cases {
		if turns, code := impl.TurnsForMean(c.list, c.s, c.mean); code != impl.ErrNone || turns != c.want {
			t.Errorf("TurnsForMean(%d, %d, %d) = %d, %d, not %d", c.list, c.s, c.mean, turns, code, c.want)
		}
	}
}

// TestFewestTurnsForMean turns all nipples on and on, each once more, until the mean is reached.
func TestFewestTurnsForMean(t *testing.T) {
	for _, n := range []int{4, 5, 6, 7, 11, 48} {
		for _, s := range rightStiffnesses() {
			for seed := range uint64(4) {
				list := someTensions(n, 0, 1500*int64(seed%2)+40, seed)
				first := meanOf(list)
				for _, step := range []int64{-1, 1} {
					// The means that are asked for go up or down from the one that is there.
					mean := first
					for turns := int64(0); max(turns, -turns) < 5; turns += step {
						reached := meanOf(expectedTurns(list, s, repeated(n, turns)))
						for ; mean*step <= reached*step && mean >= 0 && mean <= 3000; mean += step {
							if got, code := impl.TurnsForMean(list, s, mean); code != impl.ErrNone || got != turns {
								t.Fatalf("TurnsForMean(%d, %d, %d) = %d, %d, not %d", list, s, mean, got, code, turns)
							}
						}
					}
				}
			}
		}
	}
}

func TestTurnsForMeanErrors(t *testing.T) {
	checkNoStiffness(t, "TurnsForMean", func(list []int64, s []int64) (int64, bool) {
		zero := true
		for _, mean := range []int64{-1, 0, 100, 3000, 3001, math.MinInt64, math.MaxInt64} {
			turns, code := impl.TurnsForMean(list, s, mean)
			if code != impl.ErrInvalid {
				return code, false
			}
			zero = zero && turns == 0
		}
		return impl.ErrInvalid, zero
	})
	for _, list := range [][]int64{{100, 100, 100, 100}, {0, 0, 0, 0}, repeated(48, int64(3000))} {
		for _, s := range rightStiffnesses() {
			for _, mean := range beyondTensions() {
				if turns, code := impl.TurnsForMean(list, s, mean); code != impl.ErrRange || turns != 0 {
					t.Errorf("TurnsForMean(%d, %d, %d) = %d, %d", list, s, mean, turns, code)
				}
			}
		}
	}
}

func TestSlackSpokes(t *testing.T) {
	cases := []struct {
		list  []int64
		least int64
		want  []int64
	}{
		{[]int64{90, 100, 110, 100}, 95, []int64{0}},
		{[]int64{90, 100, 110, 100}, 90, nil},
		{[]int64{90, 100, 110, 100}, 91, []int64{0}},
		{[]int64{90, 100, 110, 100}, 100, []int64{0}},
		{[]int64{90, 100, 110, 100}, 101, []int64{0, 1, 3}},
		{[]int64{90, 100, 110, 100}, 110, []int64{0, 1, 3}},
		{[]int64{90, 100, 110, 100}, 111, []int64{0, 1, 2, 3}},
		{[]int64{0, 0, 0, 0}, 0, nil},
		{[]int64{0, 1, 0, 2, 0}, 1, []int64{0, 2, 4}},
		{[]int64{3000, 2999, 3000, 0}, 3000, []int64{1, 3}},
		{repeated(48, int64(3000)), 3000, nil},
		{repeated(48, int64(2999)), 3000, straight(48)},
	}
	for _, c := range cases {
		if slack, code := impl.SlackSpokes(c.list, c.least); code != impl.ErrNone || !slices.Equal(slack, c.want) {
			t.Errorf("SlackSpokes(%d, %d) = %d, %d, not %d", c.list, c.least, slack, code, c.want)
		}
	}
	checkNoTensions(t, "SlackSpokes", func(list []int64) (int64, bool) {
		zero := true
		for _, least := range []int64{-1, 0, 100, 3000, 3001, math.MinInt64, math.MaxInt64} {
			slack, code := impl.SlackSpokes(list, least)
			if code != impl.ErrInvalid {
				return code, false
			}
			zero = zero && len(slack) == 0
		}
		return impl.ErrInvalid, zero
	})
	for _, list := range [][]int64{{90, 100, 110, 100}, {0, 0, 0, 0}, repeated(48, int64(3000))} {
		for _, least := range beyondTensions() {
			if slack, code := impl.SlackSpokes(list, least); code != impl.ErrRange || len(slack) != 0 {
				t.Errorf("SlackSpokes(%d, %d) = %d, %d", list, least, slack, code)
			}
		}
	}
}

// listsOfChapter7 calls all functions of chapter 7, and returns the lists that they return.
func listsOfChapter7(list []int64, s []int64, turns []int64) map[string][]int64 {
	all := map[string][]int64{}
	all["TurnNipple"], _ = impl.TurnNipple(list, s, 1, 1)
	all["TurnNipple by 0"], _ = impl.TurnNipple(list, s, 0, 0)
	all["TurnNipple beyond"], _ = impl.TurnNipple(list, s, 0, -100)
	all["TurnAll"], _ = impl.TurnAll(list, s, turns)
	all["TurnAll by 0"], _ = impl.TurnAll(list, s, make([]int64, len(list)))
	all["TurnAll by itself"], _ = impl.TurnAll(list, s, list)
	all["TurnAll beyond"], _ = impl.TurnAll(list, s, repeated(len(list), int64(-100)))
	all["OutOfBand"], _ = impl.OutOfBand(list, 0)
	all["SlackSpokes"], _ = impl.SlackSpokes(list, 3000)
	impl.AreTensions(list)
	impl.IsStiffness(s)
	impl.SumOfTensions(list)
	impl.MeanTension(list)
	impl.SpreadOf(list)
	impl.TurnsForMean(list, s, 1000)
	return all
}

func TestArgumentsOfChapter7AreLeftAlone(t *testing.T) {
	for _, n := range []int{4, 5, 8, 48} {
		// What is behind each argument stands in its spare capacity.
		list := append(someTensions(n, 500, 600, uint64(n)), 70, 80, 90)
		s := []int64{10, -2, 1, 0, 3}
		turns := append(someTensions(n, -2, 2, uint64(n)), 5, 6, 7)
		all := [][]int64{list, s, turns}
		before := [][]int64{slices.Clone(list), slices.Clone(s), slices.Clone(turns)}
		check := func(what string) {
			t.Helper()
			for i := range all {
				if !slices.Equal(all[i], before[i]) {
					t.Fatalf("%s: an argument, or what is behind it, was changed from %d to %d", what, before[i], all[i])
				}
			}
		}
		results := listsOfChapter7(list[:n], s[:3], turns[:n])
		check("results")
		if len(results["TurnNipple"]) != n || len(results["TurnAll"]) != n || len(results["OutOfBand"]) == 0 || len(results["SlackSpokes"]) != n {
			t.Fatalf("results: %v", results)
		}
		listsOfChapter7(list[:3], s[:3], turns[:n])
		listsOfChapter7(list[:n], s, turns[:n])
		listsOfChapter7(list[:n], s[:3], turns)
		check("errors")
		for name, result := range results {
			result = result[:cap(result)]
			for i := range result {
				result[i] = 7000
			}
			check("a changed result of " + name)
		}
		for name, again := range listsOfChapter7(list[:n], s[:3], turns[:n]) {
			if slices.Contains(again, 7000) {
				t.Errorf("two results of %s share memory", name)
			}
		}
	}
}
