package tests

import (
	"math"
	"slices"
	"testing"

	"loop.example/g01050/impl"
)

// someDeviations returns deviations without an order, the same ones for the same numbers.
func someDeviations(n int, most int64, seed uint64) []int64 {
	return someTensions(n, -most, most, seed)
}

func rightDeviations() [][]int64 {
	all := [][]int64{{0, 0, 8, 0}, {-500, 500, -500, 500}, {500, 0, 0, 0}, {0, 0, 0, -500}, {1, -1, 1, -1, 1}, {7, 7, 0, 0, 0, -7, -7, 0, 3, 1}}
	for n := 4; n <= 10; n++ {
		all = append(all, repeated(n, int64(0)), repeated(n, int64(500)), repeated(n, int64(-500)))
		for seed := range uint64(4) {
			all = append(all, someDeviations(n, 500, seed), someDeviations(n, 30, seed), someDeviations(n, 3, seed))
		}
	}
	return all
}

func wrongDeviations() [][]int64 {
	all := [][]int64{nil, {}, {0}, {0, 0}, {0, 0, 0}, repeated(11, int64(0)), repeated(12, int64(5)), repeated(20, int64(0)), repeated(1000, int64(500)), {-501, 501, 0}}
	for _, n := range []int{4, 5, 10} {
		for _, deviation := range beyondDeviations() {
			list := repeated(n, int64(0))
			all = append(all, with(list, 0, deviation), with(list, 2, deviation), with(list, int64(n-1), deviation), repeated(n, deviation))
		}
	}
	return all
}

// beyondDeviations returns numbers beyond -500..500.
func beyondDeviations() []int64 {
	return []int64{-501, 501, -1000, 5000, 1 << 32, 1<<32 + 5, -1 << 32, math.MinInt64, math.MinInt64 + 5, math.MaxInt64}
}

func rightEffects() [][]int64 {
	return [][]int64{
		{1}, {4}, {20},
		{1, 0}, {1, 20}, {20, 20}, {4, 2}, {3, 7},
		{1, 0, 0}, {20, 20, 20}, {4, 2, 1}, {1, 20, 20}, {2, 0, 3}, {5, 3, 0},
	}
}

func wrongEffects() [][]int64 {
	all := [][]int64{
		nil, {}, {1, 0, 0, 0}, {4, 2, 1, 1}, repeated(4, int64(20)), repeated(10, int64(1)), repeated(1000, int64(20)),
		{0}, {0, 1}, {0, 20, 20}, {0, 0, 0},
	}
	for _, n := range []int64{-1, 21, -20, 1 << 32, -1 << 32, 1<<32 + 4, math.MinInt64, math.MaxInt64} {
		all = append(all, []int64{n}, []int64{n, 1}, []int64{n, 1, 1}, []int64{4, n}, []int64{4, n, 1}, []int64{4, 1, n}, []int64{4, n, -n})
	}
	return all
}

// beyondTolerances returns numbers beyond 0..500.
func beyondTolerances() []int64 {
	return []int64{-1, 501, -500, 1000, 1 << 32, 1<<32 + 5, -1 << 32, math.MinInt64, math.MaxInt64}
}

// expectedPlan asks of each spoke how far it is from each other one, and turns to the right only:
// a spoke with an even number is turned to the other side. It does not look at any ranges.
func expectedPlan(list []int64, e []int64, plan []int64) []int64 {
	turns := slices.Clone(plan)
	for spoke := range turns {
		if spoke%2 == 0 {
			turns[spoke] = -turns[spoke]
		}
	}
	return expectedTurns(list, e, turns)
}

func isGood(list []int64, tolerance int64) bool {
	return slices.Min(list) >= -tolerance && slices.Max(list) <= tolerance
}

func effortOf(plan []int64) int64 {
	sum := int64(0)
	for _, quarters := range plan {
		sum += max(quarters, -quarters)
	}
	return sum
}

func squaresOf(list []int64) int64 {
	sum := int64(0)
	for _, n := range list {
		sum += n * n
	}
	return sum
}

// plansUpTo returns all plans for n spokes with at most some effort, first ones first: those with
// less effort, and of those with the same effort the lexicographically greatest.
func plansUpTo(n int, effort int64) [][]int64 {
	plans := [][]int64{{}}
	for range n {
		var longer [][]int64
		for _, plan := range plans {
			left := effort - effortOf(plan)
			for quarters := -left; quarters <= left; quarters++ {
				longer = append(longer, append(slices.Clone(plan), quarters))
			}
		}
		plans = longer
	}
	slices.SortFunc(plans, func(a, b []int64) int {
		if x, y := effortOf(a), effortOf(b); x != y {
			return int(x - y)
		}
		return slices.Compare(b, a)
	})
	return plans
}

// firstGood returns the first one of some plans that is good, or nil.
func firstGood(plans [][]int64, list []int64, e []int64, tolerance int64) []int64 {
	for _, plan := range plans {
		if isGood(expectedPlan(list, e, plan), tolerance) {
			return plan
		}
	}
	return nil
}

// bestOf returns the spoke and the quarter turn that are best, or a turn by 0.
func bestOf(list []int64, e []int64) (int64, int64) {
	least, spoke, by := squaresOf(list), int64(0), int64(0)
	for i := range list {
		for _, quarters := range []int64{1, -1} {
			sum := squaresOf(expectedPlan(list, e, turnOfOne(len(list), i, quarters)))
			if sum < least {
				least, spoke, by = sum, int64(i), quarters
			}
		}
	}
	return spoke, by
}

// checkNoDeviations calls f with lists that are no deviations; f returns the code, and whether all
// else that its function returns is zero.
func checkNoDeviations(t *testing.T, name string, f func(list []int64) (int64, bool)) {
	t.Helper()
	for _, list := range wrongDeviations() {
		before := slices.Clone(list)
		if code, zero := f(list); code != impl.ErrInvalid || !zero {
			t.Errorf("%s with %d: %d, zero beside it: %v", name, list, code, zero)
		}
		if !slices.Equal(list, before) {
			t.Errorf("%s has changed %d to %d", name, before, list)
		}
	}
}

// checkNoEffect calls f with deviations or an effect that are not as described; f returns the
// code, and whether all else that its function returns is zero.
func checkNoEffect(t *testing.T, name string, f func(list []int64, e []int64) (int64, bool)) {
	t.Helper()
	check := func(list []int64, e []int64) {
		t.Helper()
		if code, zero := f(list, e); code != impl.ErrInvalid || !zero {
			t.Errorf("%s with %d, %d: %d, zero beside it: %v", name, list, e, code, zero)
		}
	}
	for _, list := range wrongDeviations() {
		check(list, []int64{4, 2})
		check(list, nil)
		check(list, []int64{0})
	}
	for _, e := range wrongEffects() {
		check([]int64{0, 0, 8, 0}, e)
		check([]int64{-500, 500, -500, 500, 0}, e)
		check(repeated(10, int64(0)), e)
	}
}

func TestConstantsOfChapter8(t *testing.T) {
	if impl.MaxTrue != 10 || impl.MaxEffort != 4 {
		t.Error("limits", impl.MaxTrue, impl.MaxEffort)
	}
}

func TestAreDeviations(t *testing.T) {
	for _, list := range rightDeviations() {
		before := slices.Clone(list)
		if !impl.AreDeviations(list) {
			t.Errorf("AreDeviations(%d) = false", list)
		}
		if !slices.Equal(list, before) {
			t.Errorf("AreDeviations has changed %d to %d", before, list)
		}
	}
	checkNoDeviations(t, "AreDeviations", func(list []int64) (int64, bool) {
		return impl.ErrInvalid, !impl.AreDeviations(list)
	})
	for n := range 50 {
		if got, want := impl.AreDeviations(repeated(n, int64(5))), n >= 4 && n <= 10; got != want {
			t.Errorf("AreDeviations of %d = %v", n, got)
		}
	}
	for deviation := int64(-600); deviation <= 600; deviation++ {
		if got, want := impl.AreDeviations([]int64{0, deviation, 0, 0}), deviation >= -500 && deviation <= 500; got != want {
			t.Errorf("AreDeviations with %d = %v", deviation, got)
		}
	}
}

func TestIsEffect(t *testing.T) {
	for _, e := range rightEffects() {
		before := slices.Clone(e)
		if !impl.IsEffect(e) {
			t.Errorf("IsEffect(%d) = false", e)
		}
		if !slices.Equal(e, before) {
			t.Errorf("IsEffect has changed %d to %d", before, e)
		}
	}
	for _, e := range wrongEffects() {
		if impl.IsEffect(e) {
			t.Errorf("IsEffect(%d) = true", e)
		}
	}
	isNumber := func(n int64) bool { return n >= 0 && n <= 20 }
	for first := int64(-3); first <= 23; first++ {
		if got, want := impl.IsEffect([]int64{first}), isNumber(first) && first > 0; got != want {
			t.Errorf("IsEffect(%d) = %v", first, got)
		}
		for other := int64(-3); other <= 23; other++ {
			want := isNumber(first) && isNumber(other) && first > 0
			for _, e := range [][]int64{{first, other}, {first, other, 5}, {first, 5, other}} {
				if got := impl.IsEffect(e); got != want {
					t.Errorf("IsEffect(%d) = %v", e, got)
				}
			}
		}
	}
}

func TestAfterPlan(t *testing.T) {
	cases := []struct{ list, e, plan, want []int64 }{
		{[]int64{0, 0, 8, 0}, []int64{4}, []int64{0, 0, 2, 0}, []int64{0, 0, 0, 0}},
		{[]int64{1, 2, 3, 4}, []int64{4}, []int64{0, 0, 0, 0}, []int64{1, 2, 3, 4}},
		// A spoke with an even number pulls to the left, one with an odd number to the right.
		{[]int64{0, 0, 0, 0}, []int64{4}, []int64{1, 0, 0, 0}, []int64{-4, 0, 0, 0}},
		{[]int64{0, 0, 0, 0}, []int64{4}, []int64{0, 1, 0, 0}, []int64{0, 4, 0, 0}},
		{[]int64{0, 0, 0, 0}, []int64{4}, []int64{1, 1, 1, 1}, []int64{-4, 4, -4, 4}},
		{[]int64{0, 0, 0, 0}, []int64{4}, []int64{-1, -2, -3, -4}, []int64{4, -8, 12, -16}},
		{[]int64{0, 0, 0, 0, 0}, []int64{4}, []int64{1, 1, 1, 1, 1}, []int64{-4, 4, -4, 4, -4}},
		{[]int64{0, 0, 0, 0, 0}, []int64{4, 2}, []int64{0, 0, 0, 0, 1}, []int64{-2, 0, 0, -2, -4}},
		{[]int64{0, 0, 0, 0, 0}, []int64{4, 2}, []int64{1, 0, 0, 0, 0}, []int64{-4, -2, 0, 0, -2}},
		{[]int64{0, 0, 0, 0, 0, 0}, []int64{4, 2}, []int64{0, 0, 0, 0, 0, 1}, []int64{2, 0, 0, 0, 2, 4}},
		{[]int64{0, 0, 0, 0, 0, 0, 0}, []int64{9, 5, 2}, []int64{0, 0, 0, 1, 0, 0, 0}, []int64{0, 2, 5, 9, 5, 2, 0}},
		{[]int64{0, 0, 0, 0, 0, 0, 0}, []int64{9, 5, 2}, []int64{-1, 0, 0, 0, 0, 0, 0}, []int64{9, 5, 2, 0, 0, 2, 5}},
		{[]int64{0, 0, 0, 0, 0, 0, 0}, []int64{9, 0, 2}, []int64{0, 3, 0, 0, 0, 0, 0}, []int64{0, 27, 0, 6, 0, 0, 6}},
		// With 4 spokes the opposite one gets two parts, and with 5 each gets one.
		{[]int64{0, 0, 0, 0}, []int64{9, 5, 2}, []int64{0, 1, 0, 0}, []int64{5, 9, 5, 4}},
		{[]int64{0, 0, 0, 0}, []int64{9, 5, 2}, []int64{1, 0, 0, 0}, []int64{-9, -5, -4, -5}},
		{[]int64{0, 0, 0, 0}, []int64{9, 5, 2}, []int64{0, 0, 0, -1}, []int64{-5, -4, -5, -9}},
		{[]int64{0, 0, 0, 0}, []int64{9, 5}, []int64{0, 1, 0, 0}, []int64{5, 9, 5, 0}},
		{[]int64{0, 0, 0, 0}, []int64{20, 20, 20}, []int64{0, 1, 0, 1}, []int64{40, 60, 40, 60}},
		{[]int64{0, 0, 0, 0}, []int64{20, 20, 20}, []int64{1, 1, 1, 1}, []int64{-20, 20, -20, 20}},
		{[]int64{0, 0, 0, 0, 0}, []int64{9, 5, 2}, []int64{0, 0, 1, 0, 0}, []int64{-2, -5, -9, -5, -2}},
		// From one end to the other.
		{[]int64{-500, -500, -500, -500}, []int64{10}, []int64{-100, 100, -100, 100}, []int64{500, 500, 500, 500}},
		{[]int64{500, 500, 500, 500}, []int64{10}, []int64{100, -100, 100, -100}, []int64{-500, -500, -500, -500}},
		{[]int64{0, 0, 0, 0}, []int64{5}, []int64{-100, 100, 100, -100}, []int64{500, 500, -500, -500}},
		{[]int64{0, 0, 0, 0, 0}, []int64{5, 1}, []int64{0, 0, 0, 0, 100}, []int64{-100, 0, 0, -100, -500}},
		// With 5 spokes and 3 numbers alike, each turn moves the whole rim: far beyond on the way,
		// and back, or just to an end.
		{[]int64{1, -2, 3, -4, 5}, []int64{20, 20, 20}, []int64{100, 100, 0, 0, 0}, []int64{1, -2, 3, -4, 5}},
		{[]int64{1, -2, 3, -4, 5}, []int64{20, 20, 20}, []int64{-100, -100, 0, -1, -1}, []int64{1, -2, 3, -4, 5}},
		{[]int64{500, 500, 500, 500, 500}, []int64{20, 20, 20}, []int64{100, 50, 0, 0, 0}, []int64{-500, -500, -500, -500, -500}},
		{[]int64{-500, -500, -500, -500, -500}, []int64{20, 20, 20}, []int64{0, 100, 25, 0, 25}, []int64{500, 500, 500, 500, 500}},
		{repeated(10, int64(0)), []int64{1}, repeated(10, int64(100)), []int64{-100, 100, -100, 100, -100, 100, -100, 100, -100, 100}},
	}
	for _, c := range cases {
		if after, code := impl.AfterPlan(c.list, c.e, c.plan); code != impl.ErrNone || !slices.Equal(after, c.want) {
			t.Errorf("AfterPlan(%d, %d, %d) = %d, %d, not %d", c.list, c.e, c.plan, after, code, c.want)
		}
	}
}

// TestEveryTurnOfOne compares a turn of each spoke alone, by each number of quarter turns, with the
// model that works by places.
func TestEveryTurnOfOne(t *testing.T) {
	for n := 4; n <= 10; n++ {
		for _, e := range rightEffects() {
			list := someDeviations(n, 500, uint64(n))
			for spoke := range n {
				for quarters := int64(-100); quarters <= 100; quarters++ {
					plan := turnOfOne(n, spoke, quarters)
					checkAfterPlan(t, list, e, plan)
				}
			}
		}
	}
}

func TestMixedPlans(t *testing.T) {
	beyond, within := 0, 0
	for n := 4; n <= 10; n++ {
		for _, e := range rightEffects() {
			for seed := range uint64(40) {
				plan := someTensions(n, -100, 100, seed)
				if seed%2 == 0 {
					plan = someTensions(n, -10, 10, seed)
				}
				if checkAfterPlan(t, someDeviations(n, 500, seed+7), e, plan) {
					within++
				} else {
					beyond++
				}
			}
		}
	}
	if beyond < 100 || within < 100 {
		t.Errorf("of the plans, %d lead beyond and %d do not", beyond, within)
	}
}

// checkAfterPlan compares with the model, takes the plan back if it can be taken back, and reports
// whether it can.
func checkAfterPlan(t *testing.T, list []int64, e []int64, plan []int64) bool {
	t.Helper()
	want := expectedPlan(list, e, plan)
	after, code := impl.AfterPlan(list, e, plan)
	if !isGood(want, 500) {
		if code != impl.ErrLimit || len(after) != 0 {
			t.Fatalf("AfterPlan(%d, %d, %d) = %d, %d, not ErrLimit", list, e, plan, after, code)
		}
		return false
	}
	if code != impl.ErrNone || !slices.Equal(after, want) {
		t.Fatalf("AfterPlan(%d, %d, %d) = %d, %d, not %d", list, e, plan, after, code, want)
	}
	undoing, code := impl.UndoPlan(plan)
	if code != impl.ErrNone {
		t.Fatalf("UndoPlan(%d) = %d, %d", plan, undoing, code)
	}
	if back, code := impl.AfterPlan(after, e, undoing); code != impl.ErrNone || !slices.Equal(back, list) {
		t.Fatalf("%d, after %d with %d, leads to %d, %d, and not back to %d", after, undoing, e, back, code, list)
	}
	return true
}

func TestAfterPlanErrors(t *testing.T) {
	checkNoEffect(t, "AfterPlan", func(list []int64, e []int64) (int64, bool) {
		zero := true
		for _, plan := range [][]int64{nil, make([]int64, len(list)), repeated(len(list), int64(101)), repeated(len(list), int64(100)), {1, 1, 1}, repeated(11, int64(0))} {
			after, code := impl.AfterPlan(list, e, plan)
			if code != impl.ErrInvalid {
				return code, false
			}
			zero = zero && len(after) == 0
		}
		return impl.ErrInvalid, zero
	})
	for n := 4; n <= 10; n++ {
		list := repeated(n, int64(500))
		wrong := [][]int64{nil, {}, {0}, make([]int64, n-1), make([]int64, n+1), make([]int64, 2*n), repeated(n-1, int64(100)), repeated(n+1, int64(-100)), repeated(n+1, int64(101))}
		for _, quarters := range beyondQuarters() {
			wrong = append(wrong, repeated(n, quarters))
			for spoke := range n {
				wrong = append(wrong, turnOfOne(n, spoke, quarters))
				// Another spoke leads beyond the deviations, which is looked at last.
				wrong = append(wrong, with(repeated(n, int64(-100)), int64(spoke), quarters))
			}
		}
		for _, plan := range wrong {
			if after, code := impl.AfterPlan(list, []int64{4, 2}, plan); code != impl.ErrRange || len(after) != 0 {
				t.Errorf("AfterPlan(%d, {4, 2}, %d) = %d, %d", list, plan, after, code)
			}
		}
	}
	limit := []struct{ list, e, plan []int64 }{
		{[]int64{-500, 0, 0, 0}, []int64{1}, []int64{1, 0, 0, 0}},
		{[]int64{0, 500, 0, 0}, []int64{1}, []int64{0, 1, 0, 0}},
		{[]int64{0, 0, 500, 0}, []int64{1}, []int64{0, 0, -1, 0}},
		{[]int64{0, 0, 0, -500}, []int64{1}, []int64{0, 0, 0, -1}},
		{[]int64{0, -1, 0, 0}, []int64{5}, []int64{0, -100, 0, 0}},
		{[]int64{0, 1, 0, 0}, []int64{5}, []int64{0, 100, 0, 0}},
		{[]int64{0, 0, 0, 500}, []int64{1, 0, 1}, []int64{0, 1, 0, 0}},
		{[]int64{0, 0, 0, 499}, []int64{1, 0, 1}, []int64{0, 1, 0, 0}},
		{[]int64{500, 500, 499, 500, 500}, []int64{20, 20, 20}, []int64{100, 50, 0, 0, 0}},
		{repeated(10, int64(0)), []int64{20, 20, 20}, repeated(10, int64(100))},
	}
	for _, c := range limit {
		if after, code := impl.AfterPlan(c.list, c.e, c.plan); code != impl.ErrLimit || len(after) != 0 {
			t.Errorf("AfterPlan(%d, %d, %d) = %d, %d", c.list, c.e, c.plan, after, code)
		}
	}
}

func TestWorstPlace(t *testing.T) {
	cases := []struct {
		list []int64
		want int64
	}{
		{[]int64{0, 0, 8, 0}, 2},
		{[]int64{0, 0, 0, 0}, 0},
		{[]int64{0, 0, 0, 1}, 3},
		{[]int64{0, 0, 0, -1}, 3},
		{[]int64{1, 0, 0, -2}, 3},
		{[]int64{1, -1, 1, -1}, 0},
		{[]int64{-1, 1, -1, 1}, 0},
		{[]int64{3, -7, 7, 0}, 1},
		{[]int64{3, 7, -7, 0}, 1},
		{[]int64{3, 0, -7, 7, -7}, 2},
		{[]int64{499, -500, 500, 0}, 1},
		{[]int64{-499, 499, 500, -500}, 2},
		{[]int64{500, -500, 500, -500}, 0},
		{[]int64{0, 0, 0, 0, 0, 0, 0, 0, -3, 3}, 8},
		{[]int64{0, 0, 0, 0, 0, 0, 0, 0, 3, -4}, 9},
	}
	for _, c := range cases {
		if spoke, code := impl.WorstPlace(c.list); code != impl.ErrNone || spoke != c.want {
			t.Errorf("WorstPlace(%d) = %d, %d, not %d", c.list, spoke, code, c.want)
		}
	}
	for _, list := range rightDeviations() {
		spoke, code := impl.WorstPlace(list)
		if code != impl.ErrNone || spoke < 0 || spoke >= int64(len(list)) {
			t.Fatalf("WorstPlace(%d) = %d, %d", list, spoke, code)
		}
		worst := max(list[spoke], -list[spoke])
		if !isGood(list, worst) || worst > 0 && spoke > 0 && !isGood(list[:spoke], worst-1) || worst == 0 && spoke > 0 {
			t.Errorf("WorstPlace(%d) = %d", list, spoke)
		}
	}
	checkNoDeviations(t, "WorstPlace", func(list []int64) (int64, bool) {
		spoke, code := impl.WorstPlace(list)
		return code, spoke == 0
	})
}

func TestIsTrue(t *testing.T) {
	cases := []struct {
		list      []int64
		tolerance int64
		want      bool
	}{
		{[]int64{0, 0, 8, 0}, 8, true},
		{[]int64{0, 0, 8, 0}, 9, true},
		{[]int64{0, 0, 8, 0}, 7, false},
		{[]int64{0, 0, 8, 0}, 0, false},
		{[]int64{-8, 0, 0, 0}, 8, true},
		{[]int64{-8, 0, 0, 0}, 7, false},
		{[]int64{0, 0, 0, 0, -9}, 8, false},
		{[]int64{5, -5, 5, -5}, 5, true},
		{[]int64{5, -6, 5, -5}, 5, false},
		{[]int64{5, -5, 6, -5}, 5, false},
		{[]int64{0, 0, 0, 0}, 0, true},
		{[]int64{0, 1, 0, 0}, 0, false},
		{[]int64{0, 0, -1, 0}, 0, false},
		{[]int64{500, -500, 500, -500}, 500, true},
		{[]int64{499, -499, 0, 500}, 499, false},
		{[]int64{499, -499, 0, -500}, 499, false},
		{repeated(10, int64(3)), 3, true},
		{with(repeated(10, int64(3)), 9, -4), 3, false},
	}
	for _, c := range cases {
		if ok, code := impl.IsTrue(c.list, c.tolerance); code != impl.ErrNone || ok != c.want {
			t.Errorf("IsTrue(%d, %d) = %v, %d, not %v", c.list, c.tolerance, ok, code, c.want)
		}
	}
	for _, list := range rightDeviations() {
		for tolerance := range int64(501) {
			if ok, code := impl.IsTrue(list, tolerance); code != impl.ErrNone || ok != isGood(list, tolerance) {
				t.Fatalf("IsTrue(%d, %d) = %v, %d", list, tolerance, ok, code)
			}
		}
		for _, tolerance := range beyondTolerances() {
			if ok, code := impl.IsTrue(list, tolerance); code != impl.ErrRange || ok {
				t.Errorf("IsTrue(%d, %d) = %v, %d", list, tolerance, ok, code)
			}
		}
	}
	checkNoDeviations(t, "IsTrue", func(list []int64) (int64, bool) {
		zero := true
		for _, tolerance := range []int64{-1, 0, 500, 501, math.MinInt64, math.MaxInt64} {
			ok, code := impl.IsTrue(list, tolerance)
			if code != impl.ErrInvalid {
				return code, false
			}
			zero = zero && !ok
		}
		return impl.ErrInvalid, zero
	})
}

func TestBestTurn(t *testing.T) {
	cases := []struct {
		list, e         []int64
		spoke, quarters int64
	}{
		{[]int64{0, 0, 8, 0}, []int64{4}, 2, 1},
		{[]int64{0, 0, -8, 0}, []int64{4}, 2, -1},
		{[]int64{0, 0, 0, 8}, []int64{4}, 3, -1},
		{[]int64{0, 0, 0, -8}, []int64{4}, 3, 1},
		// The first spoke counts, whatever its turn is.
		{[]int64{8, 8, 8, 8}, []int64{4}, 0, 1},
		{[]int64{-8, -8, -8, -8}, []int64{4}, 0, -1},
		{[]int64{-8, 8, -8, 8}, []int64{4}, 0, -1},
		{[]int64{0, 8, 8, 0}, []int64{4}, 1, -1},
		{[]int64{0, 8, -8, 8}, []int64{4}, 1, -1},
		{[]int64{0, -8, 8, 0}, []int64{4}, 1, 1},
		{[]int64{0, 0, 0, 0, 0, 0, 0, 0, 8, -8}, []int64{4}, 8, 1},
		// The greatest deviation is not the best one to turn at, if its neighbours get worse.
		{[]int64{0, 0, 9, 0, 0, 5, 5, 5, 0, 0}, []int64{4, 4}, 6, 1},
		// Less by just 1: from 3 to -2, and not from 2 to -2 or from 2 to -3.
		{[]int64{2, 2, 3, 2}, []int64{5}, 2, 1},
		{[]int64{0, 0, 0, 0, -500}, []int64{20}, 4, -1},
		{[]int64{500, -500, 500, -500}, []int64{20, 20}, 0, -1},
		{[]int64{9, -9, 6, 9, -9, 7}, []int64{4, 4}, 0, 1},
		{[]int64{9, -6, 6, 9, -9, 6}, []int64{4, 4}, 0, 1},
		{[]int64{9, -9, 6, 10, -9, 6}, []int64{4, 4}, 2, 1},
	}
	for _, c := range cases {
		spoke, quarters, code := impl.BestTurn(c.list, c.e)
		if code != impl.ErrNone || spoke != c.spoke || quarters != c.quarters {
			t.Errorf("BestTurn(%d, %d) = %d, %d, %d, not %d, %d", c.list, c.e, spoke, quarters, code, c.spoke, c.quarters)
		}
	}
	none := []struct{ list, e []int64 }{
		{[]int64{0, 0, 0, 0}, []int64{1}},
		{repeated(10, int64(0)), []int64{20, 20, 20}},
		{[]int64{1, -1, 1, -1}, []int64{2}},
		{[]int64{2, 2, 2, 2}, []int64{4}},
		{[]int64{2, -2, 2, -2, 1}, []int64{5}},
		{[]int64{9, -6, -3, 9, -6, -3}, []int64{4, 4}},
		{[]int64{9, -9, 6, 9, -9, 6}, []int64{4, 4}},
		{[]int64{500, -500, 500, -500, 500, -500}, []int64{20, 10}},
	}
	for _, c := range none {
		if spoke, quarters, code := impl.BestTurn(c.list, c.e); code != impl.ErrNotFound || spoke != 0 || quarters != 0 {
			t.Errorf("BestTurn(%d, %d) = %d, %d, %d", c.list, c.e, spoke, quarters, code)
		}
	}
}

// TestBestOfAllTurns compares with a model that tries all turns.
func TestBestOfAllTurns(t *testing.T) {
	for n := 4; n <= 10; n++ {
		for _, e := range rightEffects() {
			for seed := range uint64(60) {
				list := someDeviations(n, []int64{2, 5, 30, 500}[seed%4], seed)
				wantSpoke, wantQuarters := bestOf(list, e)
				spoke, quarters, code := impl.BestTurn(list, e)
				if wantQuarters == 0 {
					if code != impl.ErrNotFound || spoke != 0 || quarters != 0 {
						t.Fatalf("BestTurn(%d, %d) = %d, %d, %d", list, e, spoke, quarters, code)
					}
				} else if code != impl.ErrNone || spoke != wantSpoke || quarters != wantQuarters {
					t.Fatalf("BestTurn(%d, %d) = %d, %d, %d, not %d, %d", list, e, spoke, quarters, code, wantSpoke, wantQuarters)
				}
			}
		}
	}
}

// TestNoSpokeHasTwoBestTurns shows why no test sees that 1 comes before -1: a spoke at which both
// turns are as good has none that is better than to leave it.
func TestNoSpokeHasTwoBestTurns(t *testing.T) {
	for n := 4; n <= 10; n++ {
		for _, e := range rightEffects() {
			for seed := range uint64(60) {
				list := someDeviations(n, []int64{2, 5, 30, 500}[seed%4], seed)
				for spoke := range n {
					right := squaresOf(expectedPlan(list, e, turnOfOne(n, spoke, 1)))
					left := squaresOf(expectedPlan(list, e, turnOfOne(n, spoke, -1)))
					if right == left && right <= squaresOf(list) {
						t.Fatalf("at %d of %d with %d both turns are best", spoke, list, e)
					}
				}
			}
		}
	}
}

func TestBestTurnErrors(t *testing.T) {
	checkNoEffect(t, "BestTurn", func(list []int64, e []int64) (int64, bool) {
		spoke, quarters, code := impl.BestTurn(list, e)
		return code, spoke == 0 && quarters == 0
	})
}

func TestTrueByTurns(t *testing.T) {
	cases := []struct {
		list, e []int64
		most    int64
		want    []int64
	}{
		{[]int64{0, 0, 8, 0}, []int64{4}, 5, []int64{0, 0, 2, 0}},
		{[]int64{0, 0, 8, 0}, []int64{4}, 2, []int64{0, 0, 2, 0}},
		{[]int64{0, 0, 8, 0}, []int64{4}, 1, []int64{0, 0, 1, 0}},
		{[]int64{0, 0, 8, 0}, []int64{4}, 0, []int64{0, 0, 0, 0}},
		{[]int64{0, 0, 0, 0}, []int64{4}, 40, []int64{0, 0, 0, 0}},
		{[]int64{500, -500, 500, -500}, []int64{20}, 0, []int64{0, 0, 0, 0}},
		// Each turn goes to the spoke that is worst then.
		{[]int64{8, -12, 0, 16, 0}, []int64{4}, 1, []int64{0, 0, 0, -1, 0}},
		{[]int64{8, -12, 0, 16, 0}, []int64{4}, 2, []int64{0, 1, 0, -1, 0}},
		{[]int64{8, -12, 0, 16, 0}, []int64{4}, 3, []int64{0, 1, 0, -2, 0}},
		{[]int64{8, -12, 0, 16, 0}, []int64{4}, 4, []int64{1, 1, 0, -2, 0}},
		{[]int64{8, -12, 0, 16, 0}, []int64{4}, 9, []int64{2, 3, 0, -4, 0}},
		{[]int64{8, -12, 0, 16, 0}, []int64{4}, 8, []int64{2, 3, 0, -3, 0}},
		{[]int64{8, -12, 0, 16, 0}, []int64{4}, 40, []int64{2, 3, 0, -4, 0}},
		{[]int64{0, 400, 0, 0}, []int64{10}, 40, []int64{0, -40, 0, 0}},
		{[]int64{0, 500, 0, 0}, []int64{10}, 40, []int64{0, -40, 0, 0}},
		{[]int64{0, 0, 0, -390}, []int64{10}, 40, []int64{0, 0, 0, 39}},
		{[]int64{500, -500, 500, -500}, []int64{20}, 40, []int64{10, 10, 10, 10}},
		{[]int64{500, -500, 500, -500}, []int64{20}, 39, []int64{10, 10, 10, 9}},
		{[]int64{3, 0, 0, 0}, []int64{5}, 40, []int64{1, 0, 0, 0}},
		{[]int64{2, 0, 0, 0}, []int64{5}, 40, []int64{0, 0, 0, 0}},
	}
	for _, c := range cases {
		if plan, code := impl.TrueByTurns(c.list, c.e, c.most); code != impl.ErrNone || !slices.Equal(plan, c.want) {
			t.Errorf("TrueByTurns(%d, %d, %d) = %d, %d, not %d", c.list, c.e, c.most, plan, code, c.want)
		}
	}
}

// TestEveryMost turns by the model, and looks at the plan after each turn.
func TestEveryMost(t *testing.T) {
	beyond, ended, goingOn, back := 0, 0, 0, 0
	for n := 4; n <= 10; n++ {
		for _, e := range rightEffects() {
			for seed := range uint64(8) {
				list := someDeviations(n, []int64{500, 30, 500, 5}[seed%4], seed)
				if seed%4 == 2 {
					// Many deviations stand at the ends of their range.
					for i := range list {
						list[i] = []int64{-500, 500, 500, 0}[(list[i]+500)%4]
					}
				}
				left, plan, effort, wasTurned := slices.Clone(list), make([]int64, n), int64(0), true
				for most := range int64(41) {
					if got, code := impl.TrueByTurns(list, e, most); code != impl.ErrNone || !slices.Equal(got, plan) {
						t.Fatalf("TrueByTurns(%d, %d, %d) = %d, %d, not %d", list, e, most, got, code, plan)
					}
					spoke, quarters := bestOf(left, e)
					wasTurned = quarters != 0
					plan[spoke] += quarters
					effort += max(quarters, -quarters)
					left = expectedPlan(left, e, turnOfOne(n, int(spoke), quarters))
					if !isGood(left, 500) {
						beyond++
					}
				}
				if wasTurned {
					goingOn++
				} else {
					ended++
				}
				if effortOf(plan) < effort {
					back++
				}
			}
		}
	}
	if beyond == 0 || ended == 0 || goingOn == 0 || back == 0 {
		t.Errorf("%d left the range on the way, %d ended, %d did not, %d took a turn back", beyond, ended, goingOn, back)
	}
}

func TestTrueByTurnsErrors(t *testing.T) {
	beyondMost := []int64{-1, 41, -40, 400, 1 << 32, 1<<32 + 5, -1 << 32, math.MinInt64, math.MaxInt64}
	checkNoEffect(t, "TrueByTurns", func(list []int64, e []int64) (int64, bool) {
		zero := true
		for _, most := range append(beyondMost, 0, 1, 40) {
			plan, code := impl.TrueByTurns(list, e, most)
			if code != impl.ErrInvalid {
				return code, false
			}
			zero = zero && len(plan) == 0
		}
		return impl.ErrInvalid, zero
	})
	for _, list := range rightDeviations() {
		for _, most := range beyondMost {
			if plan, code := impl.TrueByTurns(list, []int64{4, 2}, most); code != impl.ErrRange || len(plan) != 0 {
				t.Errorf("TrueByTurns(%d, {4, 2}, %d) = %d, %d", list, most, plan, code)
			}
		}
	}
}

func TestLeastPlan(t *testing.T) {
	cases := []struct {
		list, e   []int64
		tolerance int64
		want      []int64
	}{
		{[]int64{0, 0, 8, 0}, []int64{4}, 0, []int64{0, 0, 2, 0}},
		{[]int64{0, 0, 8, 0}, []int64{4}, 3, []int64{0, 0, 2, 0}},
		{[]int64{0, 0, 8, 0}, []int64{4}, 4, []int64{0, 0, 1, 0}},
		{[]int64{0, 0, 8, 0}, []int64{4}, 7, []int64{0, 0, 1, 0}},
		// Good already.
		{[]int64{0, 0, 8, 0}, []int64{4}, 8, []int64{0, 0, 0, 0}},
		{[]int64{0, 0, 0, 0}, []int64{4}, 0, []int64{0, 0, 0, 0}},
		{[]int64{500, -500, 500, -500, 500}, []int64{20}, 500, []int64{0, 0, 0, 0, 0}},
		{repeated(10, int64(-7)), []int64{20, 20, 20}, 7, make([]int64, 10)},
		// An effort of just 4, at one spoke, and at several.
		{[]int64{0, 16, 0, 0}, []int64{4}, 0, []int64{0, -4, 0, 0}},
		{[]int64{0, 0, 0, 0, 0, 0, 0, 0, 0, 16}, []int64{4}, 0, []int64{0, 0, 0, 0, 0, 0, 0, 0, 0, -4}},
		{[]int64{-4, 0, 4, -8}, []int64{4}, 0, []int64{-1, 0, 1, 2}},
		{[]int64{4, 4, 4, 4}, []int64{4}, 0, []int64{1, -1, 1, -1}},
		{[]int64{0, 0, 0, 0, 0, 0, 4, 4, 4, 4}, []int64{4}, 0, []int64{0, 0, 0, 0, 0, 0, 1, -1, 1, -1}},
		{[]int64{500, 0, 0, 0}, []int64{20}, 420, []int64{4, 0, 0, 0}},
		{[]int64{500, -500, 500, -500}, []int64{20}, 480, []int64{1, 1, 1, 1}},
		// A turn too many does no harm where the tolerance is wide, but costs effort.
		{[]int64{5, 0, 0, 0}, []int64{4}, 3, []int64{1, 0, 0, 0}},
		{[]int64{0, 0, 0, 5, 0}, []int64{8}, 3, []int64{0, 0, 0, -1, 0}},
		// Each of three neighbours helps, and the lexicographically greatest plan counts.
		{[]int64{6, 0, 0, 0, 0}, []int64{4, 4}, 4, []int64{1, 0, 0, 0, 0}},
		{[]int64{0, 6, 0, 0, 0, 0}, []int64{4, 4}, 4, []int64{1, 0, 0, 0, 0, 0}},
		{[]int64{0, -6, 0, 0, 0, 0}, []int64{4, 4}, 4, []int64{0, 1, 0, 0, 0, 0}},
		{[]int64{0, 0, -6, 0, 0, 0}, []int64{4, 4}, 4, []int64{0, 1, 0, 0, 0, 0}},
		{[]int64{0, 0, 6, 0, 0, 0}, []int64{4, 4}, 4, []int64{0, 0, 1, 0, 0, 0}},
		// A zero in front is greater than a turn back.
		{[]int64{0, -6, 0, 0, 1, 1}, []int64{4, 4}, 4, []int64{0, 1, 0, 0, 0, 0}},
		{[]int64{1, -6, 0, 0, 0, 0}, []int64{4, 4}, 4, []int64{0, 0, -1, 0, 0, 0}},
		// Whole rims that are moved: by 2 turns at the first spoke that pulls as it should.
		{[]int64{20, 20, 20, 20, 20}, []int64{10, 10, 10}, 0, []int64{2, 0, 0, 0, 0}},
		{[]int64{-20, -20, -20, -20, -20}, []int64{10, 10, 10}, 0, []int64{0, 2, 0, 0, 0}},
		{[]int64{-40, -40, -40, -40, -40}, []int64{10, 10, 10}, 0, []int64{0, 4, 0, 0, 0}},
		// The opposite spoke of 4 gets two parts.
		{[]int64{5, 9, 5, 4}, []int64{9, 5, 2}, 0, []int64{0, -1, 0, 0}},
		{[]int64{-27, -15, -12, -15}, []int64{9, 5, 2}, 0, []int64{-3, 0, 0, 0}},
	}
	for _, c := range cases {
		plan, code := impl.LeastPlan(c.list, c.e, c.tolerance)
		if code != impl.ErrNone || !slices.Equal(plan, c.want) {
			t.Errorf("LeastPlan(%d, %d, %d) = %d, %d, not %d", c.list, c.e, c.tolerance, plan, code, c.want)
		}
	}
}

func TestNoLeastPlan(t *testing.T) {
	none := []struct {
		list, e   []int64
		tolerance int64
	}{
		{[]int64{0, 20, 0, 0}, []int64{4}, 0},
		{[]int64{0, 0, 0, 0, 0, 0, 0, 0, 0, -20}, []int64{4}, 0},
		{[]int64{4, 4, 4, 4, 4}, []int64{4}, 0},
		{[]int64{4, 4, 4, 8}, []int64{4}, 0},
		{[]int64{-20, -40, -20, -20, -20, -20}, []int64{20, 10, 10}, 0},
		{[]int64{500, 0, 0, 0}, []int64{20}, 419},
		{[]int64{500, 500, 500, 500, 500}, []int64{20}, 499},
		{[]int64{1, 0, 0, 0}, []int64{2}, 0},
		{[]int64{0, 0, 1, 0}, []int64{20, 20, 20}, 0},
		{repeated(10, int64(500)), []int64{20, 20, 20}, 0},
		{repeated(10, int64(500)), []int64{1}, 499},
	}
	for _, c := range none {
		if plan, code := impl.LeastPlan(c.list, c.e, c.tolerance); code != impl.ErrNotFound || len(plan) != 0 {
			t.Errorf("LeastPlan(%d, %d, %d) = %d, %d", c.list, c.e, c.tolerance, plan, code)
		}
	}
}

// checkLeastPlan compares with the first good one of all plans up to an effort of 4, and reports
// the effort, or 5 if there is none.
func checkLeastPlan(t *testing.T, plans [][]int64, list []int64, e []int64, tolerance int64) int64 {
	t.Helper()
	want := firstGood(plans, list, e, tolerance)
	plan, code := impl.LeastPlan(list, e, tolerance)
	if want == nil {
		if code != impl.ErrNotFound || len(plan) != 0 {
			t.Fatalf("LeastPlan(%d, %d, %d) = %d, %d, not ErrNotFound", list, e, tolerance, plan, code)
		}
		return 5
	}
	if code != impl.ErrNone || !slices.Equal(plan, want) {
		t.Fatalf("LeastPlan(%d, %d, %d) = %d, %d, not %d", list, e, tolerance, plan, code, want)
	}
	after, code := impl.AfterPlan(list, e, plan)
	if code != impl.ErrNone {
		t.Fatalf("AfterPlan(%d, %d, %d) = %d, %d", list, e, plan, after, code)
	}
	if ok, code := impl.IsTrue(after, tolerance); code != impl.ErrNone || !ok {
		t.Fatalf("after the plan %d of %d with %d for %d, %d is not true", plan, list, e, tolerance, after)
	}
	return effortOf(plan)
}

// TestLeastPlanOfAll asks for plans for deviations that some plan, which is seldom the least one,
// has left, so that there are some good plans.
func TestLeastPlanOfAll(t *testing.T) {
	efforts := [6]int{}
	for n := 4; n <= 10; n++ {
		plans := plansUpTo(n, 4)
		for i, e := range rightEffects() {
			for seed := range uint64(6) {
				plan := plans[int(seed*7919+uint64(i)*104729)%len(plans)]
				list := expectedPlan(someDeviations(n, int64(seed%4), seed), e, plan)
				for _, tolerance := range []int64{0, 3, int64(seed) % 7, 10} {
					efforts[checkLeastPlan(t, plans, list, e, tolerance)]++
				}
			}
		}
	}
	for effort, count := range efforts {
		if count < 20 {
			t.Errorf("%d plans have an effort of %d", count, effort)
		}
	}
}

// TestLeastPlanOfSmallDeviations asks for plans for all deviations at 4 spokes from -2 to 2.
func TestLeastPlanOfSmallDeviations(t *testing.T) {
	plans := plansUpTo(4, 4)
	for i := range int64(625) {
		list := []int64{i%5 - 2, i/5%5 - 2, i/25%5 - 2, i/125 - 2}
		for _, e := range [][]int64{{1}, {2, 1}, {3, 2, 1}, {1, 1, 1}} {
			for tolerance := range int64(3) {
				checkLeastPlan(t, plans, list, e, tolerance)
			}
		}
	}
}

func TestLeastPlanErrors(t *testing.T) {
	checkNoEffect(t, "LeastPlan", func(list []int64, e []int64) (int64, bool) {
		zero := true
		for _, tolerance := range []int64{-1, 0, 500, 501, math.MinInt64, math.MaxInt64} {
			plan, code := impl.LeastPlan(list, e, tolerance)
			if code != impl.ErrInvalid {
				return code, false
			}
			zero = zero && len(plan) == 0
		}
		return impl.ErrInvalid, zero
	})
	for _, list := range rightDeviations() {
		for _, tolerance := range beyondTolerances() {
			if plan, code := impl.LeastPlan(list, []int64{4, 2}, tolerance); code != impl.ErrRange || len(plan) != 0 {
				t.Errorf("LeastPlan(%d, {4, 2}, %d) = %d, %d", list, tolerance, plan, code)
			}
		}
	}
}

func TestDishAfter(t *testing.T) {
	cases := []struct {
		list []int64
		want int64
	}{
		{[]int64{0, 0, 8, 0}, 2},
		{[]int64{0, 0, -8, 0}, -2},
		{[]int64{0, 0, 0, 0}, 0},
		{[]int64{500, 500, 500, 500}, 500},
		{[]int64{-500, -500, -500, -500}, -500},
		{[]int64{500, -500, 500, -500}, 0},
		// Halfway between two integers the greater one counts, below 0 too.
		{[]int64{1, 1, 0, 0}, 1},
		{[]int64{-1, -1, 0, 0}, 0},
		{[]int64{1, 2, 1, 2}, 2},
		{[]int64{-1, -2, -1, -2}, -1},
		{[]int64{-500, -499, -500, -499}, -499},
		{[]int64{500, 499, 500, 499}, 500},
		{[]int64{1, 0, 0, 0}, 0},
		{[]int64{1, 1, 1, 0}, 1},
		{[]int64{-1, 0, 0, 0}, 0},
		{[]int64{-1, -1, -1, 0}, -1},
		{[]int64{1, 1, 1, 0, 0, 0}, 1},
		{[]int64{-1, -1, -1, 0, 0, 0}, 0},
		{[]int64{1, 1, 0, 0, 0}, 0},
		{[]int64{1, 1, 1, 0, 0}, 1},
		{[]int64{-1, -1, 0, 0, 0}, 0},
		{[]int64{-1, -1, -1, 0, 0}, -1},
		{[]int64{-9, -9, -9, -9, -9, -10, -10, -10, -10, -10}, -9},
		{[]int64{-9, -9, -9, -9, -10, -10, -10, -10, -10, -10}, -10},
	}
	for _, c := range cases {
		if dish, code := impl.DishAfter(c.list); code != impl.ErrNone || dish != c.want {
			t.Errorf("DishAfter(%d) = %d, %d, not %d", c.list, dish, code, c.want)
		}
	}
	for n := 4; n <= 10; n++ {
		for sum := int64(-40); sum <= 40; sum++ {
			list := with(make([]int64, n), int64(n)/2, sum)
			if dish, code := impl.DishAfter(list); code != impl.ErrNone || dish != meanOf(list) {
				t.Errorf("DishAfter(%d) = %d, %d, not %d", list, dish, code, meanOf(list))
			}
		}
	}
	for _, list := range rightDeviations() {
		if dish, code := impl.DishAfter(list); code != impl.ErrNone || dish != meanOf(list) {
			t.Errorf("DishAfter(%d) = %d, %d, not %d", list, dish, code, meanOf(list))
		}
	}
	checkNoDeviations(t, "DishAfter", func(list []int64) (int64, bool) {
		dish, code := impl.DishAfter(list)
		return code, dish == 0
	})
}

func TestUndoPlan(t *testing.T) {
	cases := []struct{ plan, want []int64 }{
		{nil, nil},
		{[]int64{}, nil},
		{[]int64{0}, []int64{0}},
		{[]int64{7}, []int64{-7}},
		{[]int64{0, 0, 2, 0}, []int64{0, 0, -2, 0}},
		{[]int64{100, -100, 99, -99, 1, -1}, []int64{-100, 100, -99, 99, -1, 1}},
		{repeated(10, int64(100)), repeated(10, int64(-100))},
		{repeated(10, int64(-100)), repeated(10, int64(100))},
		{straight(10), []int64{0, -1, -2, -3, -4, -5, -6, -7, -8, -9}},
	}
	for _, c := range cases {
		undoing, code := impl.UndoPlan(c.plan)
		if code != impl.ErrNone || !slices.Equal(undoing, c.want) {
			t.Errorf("UndoPlan(%d) = %d, %d, not %d", c.plan, undoing, code, c.want)
		}
		if again, code := impl.UndoPlan(undoing); code != impl.ErrNone || !slices.Equal(again, c.plan) {
			t.Errorf("UndoPlan(%d) = %d, %d, not %d", undoing, again, code, c.plan)
		}
	}
	for n := range 30 {
		undoing, code := impl.UndoPlan(repeated(n, int64(3)))
		if n <= 10 && (code != impl.ErrNone || !slices.Equal(undoing, repeated(n, int64(-3)))) || n > 10 && (code != impl.ErrRange || len(undoing) != 0) {
			t.Errorf("UndoPlan of %d numbers = %d, %d", n, undoing, code)
		}
	}
	for quarters := int64(-150); quarters <= 150; quarters++ {
		undoing, code := impl.UndoPlan([]int64{1, quarters})
		if right := quarters >= -100 && quarters <= 100; right && (code != impl.ErrNone || !slices.Equal(undoing, []int64{-1, -quarters})) || !right && (code != impl.ErrRange || len(undoing) != 0) {
			t.Errorf("UndoPlan({1, %d}) = %d, %d", quarters, undoing, code)
		}
	}
	for _, quarters := range beyondQuarters() {
		for _, n := range []int{1, 2, 10, 11} {
			for place := range n {
				plan := turnOfOne(n, place, quarters)
				if undoing, code := impl.UndoPlan(plan); code != impl.ErrRange || len(undoing) != 0 {
					t.Errorf("UndoPlan(%d) = %d, %d", plan, undoing, code)
				}
			}
		}
	}
}

// listsOfChapter8 calls all functions of chapter 8, and returns the lists that they return.
func listsOfChapter8(list []int64, e []int64, plan []int64) map[string][]int64 {
	all := map[string][]int64{}
	all["AfterPlan"], _ = impl.AfterPlan(list, e, plan)
	all["AfterPlan by 0"], _ = impl.AfterPlan(list, e, make([]int64, len(list)))
	all["AfterPlan by itself"], _ = impl.AfterPlan(list, e, list)
	all["AfterPlan beyond"], _ = impl.AfterPlan(list, e, repeated(len(list), int64(-100)))
	all["TrueByTurns"], _ = impl.TrueByTurns(list, e, 5)
	all["TrueByTurns by none"], _ = impl.TrueByTurns(list, e, 0)
	all["TrueByTurns to the end"], _ = impl.TrueByTurns(list, e, 40)
	all["LeastPlan"], _ = impl.LeastPlan(list, e, 30)
	all["LeastPlan of none"], _ = impl.LeastPlan(list, e, 0)
	all["LeastPlan of itself"], _ = impl.LeastPlan(list, e, 500)
	all["UndoPlan"], _ = impl.UndoPlan(plan)
	impl.AreDeviations(list)
	impl.IsEffect(e)
	impl.WorstPlace(list)
	impl.IsTrue(list, 3)
	impl.BestTurn(list, e)
	impl.DishAfter(list)
	return all
}

func TestArgumentsOfChapter8AreLeftAlone(t *testing.T) {
	for _, n := range []int{4, 5, 8, 10} {
		// What is behind each argument stands in its spare capacity.
		list := append(with(someDeviations(n, 20, uint64(n)), 1, 34), 70, 80, 90)
		e := []int64{6, 2, 1, 0, 3}
		plan := append(someTensions(n, -2, 2, uint64(n)), 5, 6, 7)
		all := [][]int64{list, e, plan}
		before := [][]int64{slices.Clone(list), slices.Clone(e), slices.Clone(plan)}
		check := func(what string) {
			t.Helper()
			for i := range all {
				if !slices.Equal(all[i], before[i]) {
					t.Fatalf("%s: an argument, or what is behind it, was changed from %d to %d", what, before[i], all[i])
				}
			}
		}
		results := listsOfChapter8(list[:n], e[:3], plan[:n])
		check("results")
		for _, name := range []string{"AfterPlan", "AfterPlan by 0", "TrueByTurns", "LeastPlan", "LeastPlan of itself", "UndoPlan"} {
			if len(results[name]) != n {
				t.Fatalf("%s: %d", name, results[name])
			}
		}
		listsOfChapter8(list[:3], e[:3], plan[:n])
		listsOfChapter8(list[:n], e, plan[:n])
		listsOfChapter8(list[:n], e[:3], plan)
		check("errors")
		for name, result := range results {
			result = result[:cap(result)]
			for i := range result {
				result[i] = 7000
			}
			check("a changed result of " + name)
		}
		for name, again := range listsOfChapter8(list[:n], e[:3], plan[:n]) {
			if slices.Contains(again, 7000) {
				t.Errorf("two results of %s share memory", name)
			}
		}
	}
}
