package tests

import (
	"math"
	"slices"
	"sync"
	"testing"
	"testing/synctest"

	"loop.example/g01050/impl"
)

func ride(day int64, tens int64, wet bool) impl.Ride {
	return impl.Ride{Day: day, Tens: tens, Wet: wet}
}

func dry(day int64, tens int64) impl.Ride { return ride(day, tens, false) }

func wet(day int64, tens int64) impl.Ride { return ride(day, tens, true) }

// dryRides returns dry rides on one day each, from day 0 on.
func dryRides(tens ...int64) []impl.Ride {
	var list []impl.Ride
	for day, n := range tens {
		list = append(list, dry(int64(day), n))
	}
	return list
}

// dryRidesOn returns dry rides of some length on some days.
func dryRidesOn(tens int64, days ...int64) []impl.Ride {
	var list []impl.Ride
	for _, day := range days {
		list = append(list, dry(day, tens))
	}
	return list
}

// someRides returns n rides without a rule, the same ones for the same numbers.
func someRides(n int, mostDay int64, mostTens int64, seed uint64) []impl.Ride {
	days, tens, wets := someTensions(n, 0, mostDay, seed), someTensions(n, 1, mostTens, seed+1000), someTensions(n, 0, 2, seed+2000)
	slices.Sort(days)
	var list []impl.Ride
	for i := range n {
		list = append(list, ride(days[i], tens[i], wets[i] == 0))
	}
	return list
}

// withRide returns the rides with another one at an index.
func withRide(list []impl.Ride, index int, r impl.Ride) []impl.Ride {
	changed := slices.Clone(list)
	changed[index] = r
	return changed
}

// usualRides are those of the given test: a wear of 250 on two days.
func usualRides() []impl.Ride { return []impl.Ride{dry(0, 100), wet(1, 50)} }

func greatestRides() []impl.Ride { return repeated(40, wet(100000, 10000)) }

func rightRides() [][]impl.Ride {
	all := [][]impl.Ride{
		nil, {}, usualRides(), greatestRides(),
		{dry(0, 1)}, {wet(0, 1)}, {dry(100000, 10000)}, {wet(100000, 10000)}, {dry(0, 10000)}, {wet(100000, 1)},
		{dry(0, 1), wet(100000, 10000)}, {wet(0, 10000), dry(100000, 1)},
		{dry(7, 30), dry(7, 20), wet(7, 10)}, {dry(3, 5), wet(3, 5), dry(4, 5)}, {wet(3, 9), dry(4, 1), dry(4, 1)},
		repeated(40, dry(0, 1)), repeated(40, wet(5, 1)), repeated(39, dry(100000, 10000)), repeated(2, wet(50000, 5000)),
		dryRides(straight(40)[1:]...),
	}
	for n := 1; n <= 40; n++ {
		all = append(all, someRides(n, 100000, 10000, uint64(n)), someRides(n, 500, 100, uint64(n)), someRides(n, 9, 4, uint64(n)))
	}
	return all
}

func wrongRideDays() []int64 { return append(beyondRange(0, 100000), -100000) }

func wrongTens() []int64 { return append(beyondRange(1, 10000), -1, -10000) }

func wrongLives() []int64 { return append(beyondRange(1, 10000000), -1, -200) }

// wrongRidesAlone returns structs that are no rides.
func wrongRidesAlone() []impl.Ride {
	var all []impl.Ride
	for _, day := range wrongRideDays() {
		all = append(all, dry(day, 1), wet(day, 10000), dry(day, 0))
	}
	for _, tens := range wrongTens() {
		all = append(all, dry(0, tens), wet(100000, tens), dry(50000, tens))
	}
	return append(all, impl.Ride{}, impl.Ride{Wet: true}, dry(100001, 10001), dry(-1, 0))
}

// wrongRides returns lists that are no rides.
func wrongRides() [][]impl.Ride {
	all := [][]impl.Ride{
		repeated(41, dry(5, 10)), repeated(42, wet(0, 1)), repeated(80, dry(100000, 10000)), repeated(100000, dry(0, 1)), dryRides(straight(42)[1:]...),
		// Days that decrease, also by one alone, and also where later ones make up for it.
		{dry(1, 10), dry(0, 10)}, {wet(100000, 10), dry(99999, 10)}, {dry(100000, 10), dry(0, 10)}, {dry(5, 1), dry(4, 1), dry(5, 1)},
		{dry(0, 1), dry(2, 1), dry(1, 1)}, {dry(0, 1), dry(9, 1), dry(8, 1), dry(9, 1)}, {dry(3, 1), dry(3, 1), dry(2, 1)},
		append(repeated(39, dry(7, 10)), dry(6, 10)), append([]impl.Ride{dry(8, 10)}, repeated(39, dry(7, 10))...),
		append(repeated(40, dry(7, 10)), dry(6, 10)), append(repeated(40, dry(7, 10)), dry(7, 0)),
	}
	for _, wrong := range wrongRidesAlone() {
		all = append(all, []impl.Ride{wrong}, []impl.Ride{wrong, wrong})
		for _, n := range []int{3, 40} {
			list := repeated(n, dry(50000, 100))
			list[0].Day, list[n-1].Day = 0, 100000
			all = append(all, withRide(list, 0, wrong), withRide(list, 1, wrong), withRide(list, n-1, wrong))
		}
	}
	return all
}

// expectedTens returns the sums of Tens of the dry rides and of the wet ones.
func expectedTens(list []impl.Ride) (int64, int64) {
	sums := map[bool]int64{}
	for _, r := range list {
		sums[r.Wet] += r.Tens
	}
	return sums[false], sums[true]
}

func expectedWear(list []impl.Ride) int64 {
	dry, wet := expectedTens(list)
	return dry + 3*wet
}

// expectedChanges looks, from each new part on, for the first ride with which the rides since then
// wear as much as its life; it returns what is worn after the last change too.
func expectedChanges(list []impl.Ride, life int64) ([]int64, int64) {
	var changed []int64
	first := 0
	for i := range list {
		if expectedWear(list[first:i+1]) >= life {
			changed = append(changed, int64(i))
			first = i + 1
		}
	}
	return changed, expectedWear(list[first:])
}

// expectedLife takes the least one of all lives at which a part begins to last a ride longer: 1,
// and one more than what some rides, one behind the other, wear.
func expectedLife(list []impl.Ride, changes int64) int64 {
	lives := []int64{1}
	for first := range list {
		for last := first; last < len(list); last++ {
			lives = append(lives, expectedWear(list[first:last+1])+1)
		}
	}
	slices.Sort(lives)
	for _, life := range lives {
		if changed, _ := expectedChanges(list, life); int64(len(changed)) <= changes {
			return life
		}
	}
	return math.MaxInt64
}

// livesFor returns lives that just suffice for what some rides wear, that are 1 less and 1 more,
// and others.
func livesFor(list []impl.Ride) []int64 {
	lives := []int64{1, 2, 3, 10000000, 9999999, 30000, 29999, 30001, 1200000, 1200001}
	for i := range min(len(list), 5) {
		for _, wear := range []int64{expectedWear(list[:i+1]), expectedWear(list[i:]), expectedWear(list[i/2 : i+1])} {
			lives = append(lives, max(1, wear-1), wear, wear+1)
		}
	}
	return lives
}

// checkNoRides calls f with lists that are no rides; f returns the code, and whether all else that
// its function returns is zero.
func checkNoRides(t *testing.T, name string, f func(list []impl.Ride) (int64, bool)) {
	t.Helper()
	for _, list := range wrongRides() {
		before := slices.Clone(list)
		if code, zero := f(list); code != impl.ErrInvalid || !zero {
			t.Errorf("%s with %d rides, %v..: %d, zero beside it: %v", name, len(list), list[:1], code, zero)
		}
		if !slices.Equal(list, before) {
			t.Errorf("%s has changed %v", name, before)
		}
	}
}

// checkNoLife calls f with lists that are no rides, with lives in and beyond their range, and with
// rides and lives beyond it.
func checkNoLife(t *testing.T, name string, f func(list []impl.Ride, life int64) (int64, bool)) {
	t.Helper()
	for _, life := range []int64{1, 200, 10000000, 0, 10000001, math.MinInt64} {
		checkNoRides(t, name, func(list []impl.Ride) (int64, bool) { return f(list, life) })
	}
	for _, list := range [][]impl.Ride{nil, {}, {dry(5, 10)}, usualRides(), repeated(40, wet(0, 1)), greatestRides()} {
		for _, life := range wrongLives() {
			if code, zero := f(list, life); code != impl.ErrRange || !zero {
				t.Errorf("%s with %v, %d: %d, zero beside it: %v", name, list, life, code, zero)
			}
		}
	}
}

func TestConstantsOfChapter12(t *testing.T) {
	if impl.MaxRides != 40 || impl.WetFactor != 3 {
		t.Errorf("MaxRides = %d, WetFactor = %d", impl.MaxRides, impl.WetFactor)
	}
}

func TestAreRides(t *testing.T) {
	for _, list := range rightRides() {
		if !impl.AreRides(list) {
			t.Errorf("AreRides(%v) is false", list)
		}
	}
	for _, list := range wrongRides() {
		if impl.AreRides(list) {
			t.Errorf("AreRides of %d rides, %v.., is true", len(list), list[:1])
		}
	}
	for n := range 100 {
		if impl.AreRides(repeated(n, dry(3, 1))) != (n <= 40) {
			t.Errorf("AreRides of %d rides is %v", n, n > 40)
		}
	}
}

// TestRangesOfRides compares which Days and Tens a ride may have.
func TestRangesOfRides(t *testing.T) {
	check := func(day int64, tens int64) {
		t.Helper()
		want := day >= 0 && day <= 100000 && tens >= 1 && tens <= 10000
		for _, isWet := range []bool{false, true} {
			if impl.AreRides([]impl.Ride{ride(day, tens, isWet)}) != want {
				t.Errorf("AreRides of a ride on %d of %d is %v", day, tens, !want)
			}
		}
	}
	for day := int64(-300); day <= 101000; day++ {
		check(day, 1+day&63)
	}
	for tens := int64(-300); tens <= 10300; tens++ {
		check(0, tens)
		check(100000, tens)
	}
}

// TestOrdersOfDays tries all Days from 0 to 3 for up to five rides.
func TestOrdersOfDays(t *testing.T) {
	var try func(list []impl.Ride)
	try = func(list []impl.Ride) {
		var days []int64
		for _, r := range list {
			days = append(days, r.Day)
		}
		if impl.AreRides(list) != slices.IsSorted(days) {
			t.Errorf("AreRides of rides on %d is %v", days, !slices.IsSorted(days))
		}
		for day := int64(0); len(list) < 5 && day <= 3; day++ {
			try(append(slices.Clone(list), wet(day, 10)))
		}
	}
	try(nil)
}

func TestAddRide(t *testing.T) {
	cases := []struct {
		list []impl.Ride
		r    impl.Ride
		code int64
	}{
		{nil, dry(0, 100), impl.ErrNone},
		{nil, wet(100000, 10000), impl.ErrNone},
		{[]impl.Ride{}, dry(0, 1), impl.ErrNone},
		{[]impl.Ride{dry(0, 100)}, wet(1, 50), impl.ErrNone},
		// The same Day, and the same ride again.
		{usualRides(), dry(1, 70), impl.ErrNone},
		{usualRides(), wet(1, 50), impl.ErrNone},
		{greatestRides()[:39], wet(100000, 10000), impl.ErrNone},
		{repeated(39, dry(0, 1)), dry(0, 1), impl.ErrNone},
		{dryRides(straight(40)[1:]...), dry(38, 1), impl.ErrNone},
		// An earlier Day than that of the last ride.
		{usualRides(), dry(0, 50), impl.ErrState},
		{[]impl.Ride{dry(100000, 1)}, dry(99999, 1), impl.ErrState},
		{[]impl.Ride{dry(5, 1), dry(9, 1)}, wet(8, 1), impl.ErrState},
		{dryRides(straight(40)[1:]...), dry(37, 1), impl.ErrState},
		// A ride that is none.
		{nil, impl.Ride{}, impl.ErrState},
		{nil, dry(0, 0), impl.ErrState},
		{nil, dry(-1, 1), impl.ErrState},
		{nil, wet(100001, 1), impl.ErrState},
		{usualRides(), wet(2, 10001), impl.ErrState},
		{greatestRides()[:39], wet(100001, 10000), impl.ErrState},
		// Rides that are full, with a ride that is one, that is none, and on an earlier Day.
		{greatestRides(), wet(100000, 10000), impl.ErrLimit},
		{repeated(40, dry(3, 1)), dry(4, 1), impl.ErrLimit},
		{repeated(40, dry(3, 1)), dry(4, 0), impl.ErrLimit},
		{repeated(40, dry(3, 1)), dry(-1, 1), impl.ErrLimit},
		{repeated(40, dry(3, 1)), dry(2, 1), impl.ErrLimit},
		// Lists that are no rides, also if the ride would make it worse.
		{repeated(41, dry(3, 1)), dry(3, 1), impl.ErrInvalid},
		{repeated(41, dry(3, 1)), dry(2, 0), impl.ErrInvalid},
		{[]impl.Ride{dry(0, 0)}, dry(0, 1), impl.ErrInvalid},
		{[]impl.Ride{dry(0, 0)}, dry(0, 0), impl.ErrInvalid},
		{append(repeated(39, dry(3, 1)), dry(2, 1)), dry(3, 1), impl.ErrInvalid},
	}
	for _, c := range cases {
		var want []impl.Ride
		if c.code == impl.ErrNone {
			want = append(slices.Clone(c.list), c.r)
		}
		if list, code := impl.AddRide(c.list, c.r); code != c.code || !slices.Equal(list, want) {
			t.Errorf("AddRide(%v, %v) = %v, %d, not %v, %d", c.list, c.r, list, code, want, c.code)
		}
	}
	for _, r := range []impl.Ride{dry(0, 1), wet(100000, 10000), {}, dry(-1, 1)} {
		checkNoRides(t, "AddRide", func(list []impl.Ride) (int64, bool) {
			longer, code := impl.AddRide(list, r)
			return code, len(longer) == 0
		})
	}
}

func TestAddRideToRightRides(t *testing.T) {
	for _, list := range rightRides() {
		for _, r := range append(wrongRidesAlone(), dry(100000, 1), wet(100000, 10000)) {
			want, wantCode := append(slices.Clone(list), r), int64(impl.ErrNone)
			if len(list) == 40 {
				want, wantCode = nil, impl.ErrLimit
			} else if r.Day != 100000 || r.Tens < 1 || r.Tens > 10000 {
				want, wantCode = nil, impl.ErrState
			}
			if longer, code := impl.AddRide(list, r); code != wantCode || !slices.Equal(longer, want) {
				t.Errorf("AddRide(%v, %v) = %v, %d, not %v, %d", list, r, longer, code, want, wantCode)
			}
		}
	}
}

// TestRidesOneByOne adds rides until there are as many as there may be.
func TestRidesOneByOne(t *testing.T) {
	for seed := range uint64(20) {
		want := someRides(40, 1000, 10000, seed)
		var list []impl.Ride
		for i, r := range want {
			longer, code := impl.AddRide(list, r)
			if code != impl.ErrNone || !slices.Equal(longer, want[:i+1]) || !impl.AreRides(longer) {
				t.Fatalf("AddRide(%v, %v) = %v, %d", list, r, longer, code)
			}
			list = longer
		}
		if longer, code := impl.AddRide(list, want[39]); code != impl.ErrLimit || len(longer) != 0 {
			t.Fatalf("AddRide(%v, %v) = %v, %d", list, want[39], longer, code)
		}
	}
}

func TestWearOf(t *testing.T) {
	cases := []struct {
		list []impl.Ride
		want int64
	}{
		{nil, 0},
		{[]impl.Ride{}, 0},
		{usualRides(), 250},
		{[]impl.Ride{dry(7, 1)}, 1},
		{[]impl.Ride{wet(7, 1)}, 3},
		{[]impl.Ride{dry(0, 10000)}, 10000},
		{[]impl.Ride{wet(0, 10000)}, 30000},
		{[]impl.Ride{dry(7, 30), dry(7, 20), wet(7, 10)}, 80},
		{repeated(40, dry(0, 1)), 40},
		{repeated(40, wet(0, 1)), 120},
		{repeated(40, dry(5, 10000)), 400000},
		{greatestRides(), 1200000},
		{dryRides(straight(41)[1:]...), 820},
	}
	for _, c := range cases {
		if wear, code := impl.WearOf(c.list); code != impl.ErrNone || wear != c.want {
			t.Errorf("WearOf(%v) = %d, %d, not %d", c.list, wear, code, c.want)
		}
	}
	for _, list := range rightRides() {
		if wear, code := impl.WearOf(list); code != impl.ErrNone || wear != expectedWear(list) {
			t.Errorf("WearOf(%v) = %d, %d, not %d", list, wear, code, expectedWear(list))
		}
	}
	checkNoRides(t, "WearOf", func(list []impl.Ride) (int64, bool) {
		wear, code := impl.WearOf(list)
		return code, wear == 0
	})
}

func TestChangedAfterAndWornPercent(t *testing.T) {
	cases := []struct {
		list          []impl.Ride
		life          int64
		want          []int64
		worn, percent int64
	}{
		// No rides.
		{nil, 1, nil, 0, 0},
		{[]impl.Ride{}, 10000000, nil, 0, 0},
		// A wear that is the life exactly, and one below it; nothing is worn after the last ride.
		{usualRides(), 250, []int64{1}, 0, 0},
		{usualRides(), 251, nil, 250, 99},
		{usualRides(), 200, []int64{1}, 0, 0},
		{usualRides(), 400, nil, 250, 62},
		{usualRides(), 101, []int64{1}, 0, 0},
		{usualRides(), 100, []int64{0, 1}, 0, 0},
		{usualRides(), 151, []int64{1}, 0, 0},
		{usualRides(), 10000000, nil, 250, 0},
		{[]impl.Ride{dry(0, 1)}, 1, []int64{0}, 0, 0},
		{[]impl.Ride{dry(0, 1)}, 2, nil, 1, 50},
		{[]impl.Ride{wet(0, 1)}, 3, []int64{0}, 0, 0},
		{[]impl.Ride{wet(0, 1)}, 4, nil, 3, 75},
		// What goes beyond the life is gone with the part.
		{dryRides(1, 10000, 1), 10, []int64{1}, 1, 10},
		{dryRides(10000, 9, 1), 10, []int64{0, 2}, 0, 0},
		{dryRides(10000, 9), 10, []int64{0}, 9, 90},
		{dryRides(7, 7, 7, 7), 10, []int64{1, 3}, 0, 0},
		{dryRides(7, 7, 7, 7, 7), 10, []int64{1, 3}, 7, 70},
		{dryRides(7, 7, 7, 7), 21, []int64{2}, 7, 33},
		{dryRides(7, 7, 7, 7), 22, []int64{3}, 0, 0},
		{dryRides(7, 7, 7, 7), 29, nil, 28, 96},
		{[]impl.Ride{wet(0, 10000), dry(0, 1), dry(0, 1)}, 3, []int64{0}, 2, 66},
		// A wear that counts only because it was wet, or not because it was dry.
		{[]impl.Ride{dry(0, 10), wet(0, 10), dry(1, 10)}, 30, []int64{1}, 10, 33},
		{[]impl.Ride{dry(0, 10), dry(0, 10), dry(1, 10)}, 30, []int64{2}, 0, 0},
		{[]impl.Ride{dry(0, 10), wet(0, 10), dry(1, 10)}, 40, []int64{1}, 10, 25},
		{[]impl.Ride{dry(0, 10), wet(0, 10), dry(1, 10)}, 41, []int64{2}, 0, 0},
		// A change behind every ride, and none.
		{repeated(40, dry(0, 1)), 1, straight(40), 0, 0},
		{repeated(40, dry(0, 1)), 2, []int64{1, 3, 5, 7, 9, 11, 13, 15, 17, 19, 21, 23, 25, 27, 29, 31, 33, 35, 37, 39}, 0, 0},
		{repeated(40, dry(0, 1)), 40, []int64{39}, 0, 0},
		{repeated(40, dry(0, 1)), 41, nil, 40, 97},
		{repeated(40, dry(0, 1)), 39, []int64{38}, 1, 2},
		{greatestRides(), 1, straight(40), 0, 0},
		{greatestRides(), 30000, straight(40), 0, 0},
		{greatestRides(), 30001, []int64{1, 3, 5, 7, 9, 11, 13, 15, 17, 19, 21, 23, 25, 27, 29, 31, 33, 35, 37, 39}, 0, 0},
		{greatestRides(), 1200000, []int64{39}, 0, 0},
		{greatestRides(), 1200001, nil, 1200000, 99},
		{greatestRides(), 10000000, nil, 1200000, 12},
	}
	for _, c := range cases {
		if changed, code := impl.ChangedAfter(c.list, c.life); code != impl.ErrNone || !slices.Equal(changed, c.want) {
			t.Errorf("ChangedAfter(%v, %d) = %d, %d, not %d", c.list, c.life, changed, code, c.want)
		}
		if percent, code := impl.WornPercent(c.list, c.life); code != impl.ErrNone || percent != c.percent || percent != 100*c.worn/c.life {
			t.Errorf("WornPercent(%v, %d) = %d, %d, not %d", c.list, c.life, percent, code, c.percent)
		}
	}
	checkNoLife(t, "ChangedAfter", func(list []impl.Ride, life int64) (int64, bool) {
		changed, code := impl.ChangedAfter(list, life)
		return code, len(changed) == 0
	})
	checkNoLife(t, "WornPercent", func(list []impl.Ride, life int64) (int64, bool) {
		percent, code := impl.WornPercent(list, life)
		return code, percent == 0
	})
}

func TestChangesOfManyRides(t *testing.T) {
	none, last, every := 0, 0, 0
	for _, list := range rightRides() {
		for _, life := range livesFor(list) {
			want, worn := expectedChanges(list, life)
			changed, code := impl.ChangedAfter(list, life)
			if code != impl.ErrNone || !slices.Equal(changed, want) || len(changed) > len(list) {
				t.Errorf("ChangedAfter(%v, %d) = %d, %d, not %d", list, life, changed, code, want)
			}
			percent, code := impl.WornPercent(list, life)
			if code != impl.ErrNone || percent*life > 100*worn || (percent+1)*life <= 100*worn || percent < 0 || percent > 99 {
				t.Errorf("WornPercent(%v, %d) = %d, %d, for a wear of %d", list, life, percent, code, worn)
			}
			if len(want) == 0 {
				none++
			}
			if worn == 0 {
				last++
			}
			if len(want) == len(list) {
				every++
			}
		}
	}
	if none < 100 || last < 100 || every < 100 {
		t.Errorf("only %d lives without a change, %d with one behind the last ride, %d with one behind every ride", none, last, every)
	}
}

func TestDayForChange(t *testing.T) {
	cases := []struct {
		list       []impl.Ride
		life       int64
		want, code int64
	}{
		{usualRides(), 400, 3, impl.ErrNone},
		// 125 on each day: the day behind the last ride, just and with less than a day's wear.
		{usualRides(), 375, 2, impl.ErrNone},
		{usualRides(), 251, 2, impl.ErrNone},
		{usualRides(), 376, 3, impl.ErrNone},
		{usualRides(), 500, 3, impl.ErrNone},
		{usualRides(), 501, 4, impl.ErrNone},
		// The part was changed behind the last ride, so that a whole life is left.
		{usualRides(), 250, 3, impl.ErrNone},
		{usualRides(), 125, 2, impl.ErrNone},
		{usualRides(), 126, 3, impl.ErrNone},
		{usualRides(), 1, 2, impl.ErrNone},
		// One ride: a single day.
		{[]impl.Ride{dry(7, 10)}, 10, 8, impl.ErrNone},
		{[]impl.Ride{dry(7, 10)}, 11, 8, impl.ErrNone},
		{[]impl.Ride{dry(7, 10)}, 20, 8, impl.ErrNone},
		{[]impl.Ride{dry(7, 10)}, 21, 9, impl.ErrNone},
		{[]impl.Ride{wet(7, 10)}, 60, 8, impl.ErrNone},
		{[]impl.Ride{wet(7, 10)}, 61, 9, impl.ErrNone},
		// All rides on one day, whose wear of 80 is that of a day.
		{[]impl.Ride{dry(7, 30), dry(7, 20), wet(7, 10)}, 160, 8, impl.ErrNone},
		{[]impl.Ride{dry(7, 30), dry(7, 20), wet(7, 10)}, 161, 9, impl.ErrNone},
		// The wear of the part is 30 after its change, that of all rides 80.
		{[]impl.Ride{dry(7, 30), dry(7, 20), wet(7, 10)}, 50, 8, impl.ErrNone},
		{[]impl.Ride{dry(7, 20), wet(7, 10), dry(7, 30)}, 50, 8, impl.ErrNone},
		{[]impl.Ride{dry(6, 20), wet(7, 10), dry(7, 30)}, 50, 8, impl.ErrNone},
		// A mean wear of 10/3, of which three days make just 10; and of 11/3, 10/7 and 1/10.
		{[]impl.Ride{dry(0, 5), dry(2, 5)}, 20, 5, impl.ErrNone},
		{[]impl.Ride{dry(0, 5), dry(2, 5)}, 21, 6, impl.ErrNone},
		{[]impl.Ride{dry(0, 5), dry(2, 5)}, 13, 3, impl.ErrNone},
		{[]impl.Ride{dry(0, 5), dry(2, 5)}, 14, 4, impl.ErrNone},
		{[]impl.Ride{dry(0, 5), dry(2, 5)}, 16, 4, impl.ErrNone},
		{[]impl.Ride{dry(0, 5), dry(2, 5)}, 17, 5, impl.ErrNone},
		{[]impl.Ride{dry(0, 5), wet(2, 2)}, 22, 5, impl.ErrNone},
		{[]impl.Ride{dry(0, 5), wet(2, 2)}, 23, 6, impl.ErrNone},
		{[]impl.Ride{dry(10, 1), dry(16, 9)}, 20, 23, impl.ErrNone},
		{[]impl.Ride{dry(10, 1), dry(16, 9)}, 21, 24, impl.ErrNone},
		{[]impl.Ride{dry(10, 1), dry(16, 9)}, 18, 22, impl.ErrNone},
		{dryRidesOn(1, 0, 19), 3, 29, impl.ErrNone},
		{dryRidesOn(1, 0, 19), 4, 39, impl.ErrNone},
		// The first and the last day count both: a wear of 3 on 3 days.
		{dryRidesOn(1, 4, 5, 6), 4, 7, impl.ErrNone},
		{dryRidesOn(1, 4, 5, 6), 5, 8, impl.ErrNone},
		{dryRidesOn(1, 4, 6, 6), 5, 8, impl.ErrNone},
		// A day that is 100000 just, and one that would be 100001.
		{dryRidesOn(1, 0), 100001, 100000, impl.ErrNone},
		{dryRidesOn(1, 0), 100002, 0, impl.ErrNotFound},
		{dryRidesOn(10, 99999), 20, 100000, impl.ErrNone},
		{dryRidesOn(10, 99999), 21, 0, impl.ErrNotFound},
		{dryRidesOn(1, 1), 100000, 100000, impl.ErrNone},
		{dryRidesOn(1, 1), 100001, 0, impl.ErrNotFound},
		{dryRidesOn(100, 0, 49999), 400, 99999, impl.ErrNone},
		{dryRidesOn(100, 0, 49999), 401, 0, impl.ErrNotFound},
		{dryRidesOn(3, 0, 6), 85715, 100000, impl.ErrNone},
		{dryRidesOn(3, 0, 6), 85716, 0, impl.ErrNotFound},
		{dryRidesOn(1, 100000), 1, 0, impl.ErrNotFound},
		{dryRidesOn(10000, 100000), 10000000, 0, impl.ErrNotFound},
		{greatestRides(), 1, 0, impl.ErrNotFound},
		{dryRidesOn(1, 0, 100000), 10000000, 0, impl.ErrNotFound},
		{dryRidesOn(1, 0, 99999), 10000000, 0, impl.ErrNotFound},
		{repeated(40, wet(0, 10000)), 10000000, 8, impl.ErrNone},
		// No rides.
		{nil, 1, 0, impl.ErrNotFound},
		{nil, 10000000, 0, impl.ErrNotFound},
		{[]impl.Ride{}, 400, 0, impl.ErrNotFound},
	}
	for _, c := range cases {
		if day, code := impl.DayForChange(c.list, c.life); code != c.code || day != c.want {
			t.Errorf("DayForChange(%v, %d) = %d, %d, not %d, %d", c.list, c.life, day, code, c.want, c.code)
		}
	}
	checkNoLife(t, "DayForChange", func(list []impl.Ride, life int64) (int64, bool) {
		day, code := impl.DayForChange(list, life)
		return code, day == 0
	})
}

// TestDaysOfManyRides checks that the part is worn on the day, and not on the day before. Both
// wears are multiplied by the number of days, so that they are exact.
func TestDaysOfManyRides(t *testing.T) {
	next, found, late := 0, 0, 0
	for _, list := range rightRides() {
		if len(list) == 0 {
			continue
		}
		last := list[len(list)-1].Day
		days := last - list[0].Day + 1
		for _, life := range livesFor(list) {
			_, worn := expectedChanges(list, life)
			isWornOn := func(day int64) bool { return worn*days+(day-last)*expectedWear(list) >= life*days }
			day, code := impl.DayForChange(list, life)
			switch {
			case code == impl.ErrNone:
				if day <= last || day > 100000 || !isWornOn(day) || isWornOn(day-1) {
					t.Errorf("DayForChange(%v, %d) = %d", list, life, day)
				}
				found++
				if day == last+1 {
					next++
				}
			case code != impl.ErrNotFound || day != 0 || isWornOn(100000):
				t.Errorf("DayForChange(%v, %d) = %d, %d", list, life, day, code)
			default:
				late++
			}
		}
	}
	if next < 100 || found < 500 || late < 100 {
		t.Errorf("only %d days are found, %d are next, %d are too late", found, next, late)
	}
}

// TestDaysOneByOne adds the mean wear day by day, in parts of a day.
func TestDaysOneByOne(t *testing.T) {
	for seed := range uint64(300) {
		list := someRides(1+int(seed%7), 20, 9, seed)
		last := list[len(list)-1].Day
		days := last - list[0].Day + 1
		for life := int64(1); life <= 60; life += 3 {
			_, worn := expectedChanges(list, life)
			parts, want := worn*days, last
			for parts < life*days {
				parts += expectedWear(list)
				want++
			}
			if day, code := impl.DayForChange(list, life); code != impl.ErrNone || day != want {
				t.Fatalf("DayForChange(%v, %d) = %d, %d, not %d", list, life, day, code, want)
			}
		}
	}
}

func TestLifeFor(t *testing.T) {
	cases := []struct {
		list          []impl.Ride
		changes, want int64
	}{
		{usualRides(), 0, 251},
		{usualRides(), 1, 101},
		{usualRides(), 2, 1},
		{usualRides(), 40, 1},
		// No rides, and one.
		{nil, 0, 1},
		{[]impl.Ride{}, 40, 1},
		{[]impl.Ride{dry(0, 1)}, 0, 2},
		{[]impl.Ride{dry(0, 1)}, 1, 1},
		{[]impl.Ride{wet(0, 10000)}, 0, 30001},
		{[]impl.Ride{wet(0, 10000)}, 1, 1},
		{[]impl.Ride{wet(0, 10000)}, 40, 1},
		// 7, 7 and 7: one change for a life of 8, and none for one of 22.
		{dryRides(7, 7, 7), 2, 8},
		{dryRides(7, 7, 7), 1, 8},
		{dryRides(7, 7, 7), 0, 22},
		{dryRides(7, 7, 7, 7), 2, 8},
		{dryRides(7, 7, 7, 7), 1, 15},
		{dryRides(7, 7, 7, 7), 3, 8},
		// What goes beyond the life is gone with the part.
		{dryRides(1, 10000, 1), 0, 10003},
		{dryRides(1, 10000, 1), 1, 2},
		{dryRides(1, 10000, 1), 2, 2},
		{dryRides(1, 10000, 1), 3, 1},
		{dryRides(10000, 9, 1), 1, 11},
		{dryRides(10000, 9, 1), 2, 2},
		{repeated(40, dry(0, 1)), 40, 1},
		{repeated(40, dry(0, 1)), 39, 2},
		{repeated(40, dry(0, 1)), 20, 2},
		{repeated(40, dry(0, 1)), 19, 3},
		{repeated(40, dry(0, 1)), 1, 21},
		{repeated(40, dry(0, 1)), 0, 41},
		{greatestRides(), 40, 1},
		{greatestRides(), 39, 30001},
		{greatestRides(), 1, 600001},
		{greatestRides(), 0, 1200001},
	}
	for _, c := range cases {
		if life, code := impl.LifeFor(c.list, c.changes); code != impl.ErrNone || life != c.want {
			t.Errorf("LifeFor(%v, %d) = %d, %d, not %d", c.list, c.changes, life, code, c.want)
		}
	}
}

func TestLifeForErrors(t *testing.T) {
	wrong := append(beyondRange(0, 40), 42, -40, 400)
	for _, list := range [][]impl.Ride{nil, {}, {dry(5, 10)}, usualRides(), repeated(40, wet(0, 1)), greatestRides()} {
		for _, changes := range wrong {
			if life, code := impl.LifeFor(list, changes); code != impl.ErrRange || life != 0 {
				t.Errorf("LifeFor(%v, %d) = %d, %d", list, changes, life, code)
			}
		}
		for changes := range int64(41) {
			if life, code := impl.LifeFor(list, changes); code != impl.ErrNone || life < 1 {
				t.Errorf("LifeFor(%v, %d) = %d, %d", list, changes, life, code)
			}
		}
	}
	for _, changes := range append(wrong, 0, 1, 40) {
		checkNoRides(t, "LifeFor", func(list []impl.Ride) (int64, bool) {
			life, code := impl.LifeFor(list, changes)
			return code, life == 0
		})
	}
}

// TestLivesAreLeast tries all lives from 1 on.
func TestLivesAreLeast(t *testing.T) {
	for seed := range uint64(60) {
		list := someRides(int(seed%9), 9, 1+int64(seed%5), seed)
		for changes := range int64(10) {
			want := int64(1)
			for {
				changed, code := impl.ChangedAfter(list, want)
				if code != impl.ErrNone {
					t.Fatalf("ChangedAfter(%v, %d): %d", list, want, code)
				}
				if int64(len(changed)) <= changes {
					break
				}
				want++
			}
			if life, code := impl.LifeFor(list, changes); code != impl.ErrNone || life != want {
				t.Fatalf("LifeFor(%v, %d) = %d, %d, not %d", list, changes, life, code, want)
			}
		}
	}
}

// TestNeverChangedTooOften is the guarantee of the chapter: no more changes than rides, and with
// the least life no more than there may be, but more with a life that is 1 less.
func TestNeverChangedTooOften(t *testing.T) {
	for _, list := range rightRides() {
		n := int64(len(list))
		for _, changes := range []int64{0, 1, 2, 3, 5, 9, 13, 20, n / 2, max(1, n) - 1, n, 40} {
			life, code := impl.LifeFor(list, changes)
			if code != impl.ErrNone || life != expectedLife(list, changes) {
				t.Fatalf("LifeFor(%v, %d) = %d, %d, not %d", list, changes, life, code, expectedLife(list, changes))
			}
			changed, code := impl.ChangedAfter(list, life)
			if code != impl.ErrNone || int64(len(changed)) > min(changes, n) {
				t.Fatalf("ChangedAfter(%v, %d) = %d, %d, for %d changes", list, life, changed, code, changes)
			}
			if life == 1 {
				continue
			}
			if changed, code = impl.ChangedAfter(list, life-1); code != impl.ErrNone || int64(len(changed)) <= changes {
				t.Fatalf("ChangedAfter(%v, %d) = %d, %d, although %d is the least life for %d changes", list, life-1, changed, code, life, changes)
			}
		}
	}
}

// TestGreaterLivesAreNotWorse is what makes the least life one from which on all suffice.
func TestGreaterLivesAreNotWorse(t *testing.T) {
	for seed := range uint64(40) {
		list := someRides(int(seed), 9, 1+int64(seed%6), seed)
		before := len(list)
		for life := int64(1); life <= 100; life++ {
			changed, code := impl.ChangedAfter(list, life)
			if code != impl.ErrNone || len(changed) > before {
				t.Fatalf("ChangedAfter(%v, %d) = %d, %d, after %d changes", list, life, changed, code, before)
			}
			before = len(changed)
		}
	}
}

func TestWetShare(t *testing.T) {
	cases := []struct {
		list []impl.Ride
		want int64
	}{
		// No rides.
		{nil, 0},
		{[]impl.Ride{}, 0},
		// The Tens alone count, not the wear.
		{usualRides(), 333},
		{[]impl.Ride{wet(0, 100), dry(0, 50)}, 666},
		{[]impl.Ride{wet(0, 1), dry(0, 1)}, 500},
		{[]impl.Ride{wet(0, 1), dry(0, 1), wet(3, 1), dry(4, 4)}, 285},
		// No wet ride, and none that is dry.
		{[]impl.Ride{dry(0, 1)}, 0},
		{repeated(40, dry(0, 10000)), 0},
		{[]impl.Ride{wet(0, 1)}, 1000},
		{greatestRides(), 1000},
		// Just below and at a thousandth.
		{[]impl.Ride{wet(0, 1), dry(0, 1000)}, 0},
		{[]impl.Ride{wet(0, 1), dry(0, 999)}, 1},
		{[]impl.Ride{wet(0, 999), dry(0, 1)}, 999},
		{[]impl.Ride{wet(0, 10000), dry(0, 1)}, 999},
		{[]impl.Ride{wet(0, 1), dry(0, 10000)}, 0},
		{append(repeated(39, wet(0, 10000)), dry(0, 1)), 999},
		{append(repeated(39, dry(0, 10000)), wet(0, 1)), 0},
	}
	for _, c := range cases {
		if share, code := impl.WetShare(c.list); code != impl.ErrNone || share != c.want {
			t.Errorf("WetShare(%v) = %d, %d, not %d", c.list, share, code, c.want)
		}
	}
	for _, list := range rightRides() {
		share, code := impl.WetShare(list)
		dry, wet := expectedTens(list)
		if code != impl.ErrNone || share*(dry+wet) > 1000*wet || len(list) > 0 && (share+1)*(dry+wet) <= 1000*wet {
			t.Errorf("WetShare(%v) = %d, %d, for %d and %d", list, share, code, dry, wet)
		}
	}
	checkNoRides(t, "WetShare", func(list []impl.Ride) (int64, bool) {
		share, code := impl.WetShare(list)
		return code, share == 0
	})
}

func TestLongestRide(t *testing.T) {
	cases := []struct {
		list       []impl.Ride
		want, code int64
	}{
		{nil, 0, impl.ErrNotFound},
		{[]impl.Ride{}, 0, impl.ErrNotFound},
		{usualRides(), 0, impl.ErrNone},
		{[]impl.Ride{dry(100000, 1)}, 0, impl.ErrNone},
		{dryRides(1, 2, 3), 2, impl.ErrNone},
		{dryRides(3, 2, 1), 0, impl.ErrNone},
		{dryRides(1, 3, 2), 1, impl.ErrNone},
		{dryRides(9999, 10000, 9998), 1, impl.ErrNone},
		// The first one of several.
		{dryRides(5, 5), 0, impl.ErrNone},
		{dryRides(1, 5, 2, 5), 1, impl.ErrNone},
		{dryRides(1, 2, 5, 5, 5), 2, impl.ErrNone},
		{greatestRides(), 0, impl.ErrNone},
		{append(repeated(39, dry(0, 1)), dry(0, 2)), 39, impl.ErrNone},
		{append(dryRides(straight(39)[1:]...), dry(50, 38)), 37, impl.ErrNone},
		// The Tens alone count, not the wear.
		{[]impl.Ride{wet(0, 5), dry(0, 6)}, 1, impl.ErrNone},
		{[]impl.Ride{dry(0, 6), wet(0, 5)}, 0, impl.ErrNone},
		{[]impl.Ride{dry(0, 5), wet(0, 5)}, 0, impl.ErrNone},
		{[]impl.Ride{wet(0, 5), dry(0, 5)}, 0, impl.ErrNone},
	}
	for _, c := range cases {
		if index, code := impl.LongestRide(c.list); code != c.code || index != c.want {
			t.Errorf("LongestRide(%v) = %d, %d, not %d, %d", c.list, index, code, c.want, c.code)
		}
	}
	for _, list := range rightRides() {
		if len(list) == 0 {
			continue
		}
		index, code := impl.LongestRide(list)
		if code != impl.ErrNone || index < 0 || index >= int64(len(list)) {
			t.Fatalf("LongestRide(%v) = %d, %d", list, index, code)
		}
		for i, r := range list {
			if r.Tens > list[index].Tens || r.Tens == list[index].Tens && int64(i) < index {
				t.Errorf("LongestRide(%v) = %d, not %d", list, index, i)
			}
		}
	}
	checkNoRides(t, "LongestRide", func(list []impl.Ride) (int64, bool) {
		index, code := impl.LongestRide(list)
		return code, index == 0
	})
}

// resultsOfChapter12 has what all functions of chapter 12 return for some rides and numbers.
type resultsOfChapter12 struct {
	longer  []impl.Ride
	changed []int64
	numbers [6]int64
}

func callChapter12(list []impl.Ride, r impl.Ride, life int64, changes int64) resultsOfChapter12 {
	var all resultsOfChapter12
	impl.AreRides(list)
	all.longer, _ = impl.AddRide(list, r)
	all.changed, _ = impl.ChangedAfter(list, life)
	all.numbers[0], _ = impl.WearOf(list)
	all.numbers[1], _ = impl.WornPercent(list, life)
	all.numbers[2], _ = impl.DayForChange(list, life)
	all.numbers[3], _ = impl.LifeFor(list, changes)
	all.numbers[4], _ = impl.WetShare(list)
	all.numbers[5], _ = impl.LongestRide(list)
	return all
}

func sameResults(a resultsOfChapter12, b resultsOfChapter12) bool {
	return slices.Equal(a.longer, b.longer) && slices.Equal(a.changed, b.changed) && a.numbers == b.numbers
}

func (all resultsOfChapter12) clone() resultsOfChapter12 {
	return resultsOfChapter12{slices.Clone(all.longer), slices.Clone(all.changed), all.numbers}
}

// overwrite changes the lists, with the spare capacity behind them.
func (all resultsOfChapter12) overwrite() {
	longer, changed := all.longer[:cap(all.longer)], all.changed[:cap(all.changed)]
	for i := range longer {
		longer[i] = dry(777, 7000)
	}
	for i := range changed {
		changed[i] = 7000
	}
}

func TestArgumentsOfChapter12AreLeftAlone(t *testing.T) {
	for n := range 41 {
		// What is behind the rides stands in their spare capacity.
		all := append(someRides(n, 1000, 10, uint64(n)), wet(5, 9), dry(3, 0), wet(-1, 8), dry(2, 7))
		before := slices.Clone(all)
		check := func(what string) {
			t.Helper()
			if !slices.Equal(all, before) {
				t.Fatalf("%s: rides, or what is behind them, were changed from %v to %v", what, before, all)
			}
		}
		r := dry(1000, 20)
		results := callChapter12(all[:n], r, 3, 2)
		check("results")
		if n < 40 && len(results.longer) != n+1 || n > 10 && len(results.changed) < 2 {
			t.Fatalf("results with %d rides: %v", n, results)
		}
		callChapter12(all, r, 3, 2)
		callChapter12(all[:n], dry(1001, 0), 0, 41)
		callChapter12(all[:n], dry(-1, 1), 10000001, -1)
		check("errors")
		wanted := results.clone()
		results.overwrite()
		check("changed results")
		if again := callChapter12(all[:n], r, 3, 2); !sameResults(again, wanted) {
			t.Errorf("results share memory: %v, not %v", again, wanted)
		}
	}
}

// TestLaterCallsOfChapter12 changes the rides after each call, and looks at the results again.
func TestLaterCallsOfChapter12(t *testing.T) {
	list := someRides(39, 1000, 10000, 1)
	results := callChapter12(list, dry(1000, 20), 2000, 5)
	wanted := results.clone()
	for i := range list {
		list[i] = wet(1000, 10000)
	}
	callChapter12(list, wet(100000, 10000), 7, 9)
	if !sameResults(results, wanted) {
		t.Errorf("results have become %v, and were %v", results, wanted)
	}
	overwritten := callChapter12(list, dry(1000, 20), 1, 5)
	overwritten.overwrite()
	if again := callChapter12(list, dry(1000, 20), 1, 5); again.longer[0] != wet(1000, 10000) || again.changed[0] != 0 {
		t.Errorf("two results share memory: %v", again)
	}
}

// TestWearForManyAtOnce asks for the wear of the same rides from many sides.
func TestWearForManyAtOnce(t *testing.T) {
	list := someRides(39, 1000, 10000, 3)
	want := callChapter12(list, dry(1000, 1), 4000, 3)
	var group sync.WaitGroup
	for range 50 {
		group.Go(func() {
			for range 5 {
				if got := callChapter12(list, dry(1000, 1), 4000, 3); !sameResults(got, want) {
					t.Errorf("results at once are %v, not %v", got, want)
				}
			}
		})
	}
	group.Wait()
}

// TestNobodyWaitsForRides ends only if no goroutine is left behind, whatever was called.
func TestNobodyWaitsForRides(t *testing.T) {
	synctest.Test(t, func(t *testing.T) {
		for _, list := range append(rightRides(), wrongRides()...) {
			callChapter12(list, dry(100000, 1), 200, 1)
			callChapter12(list, dry(-1, 0), 0, -1)
			callChapter12(list, impl.Ride{}, 10000001, 41)
		}
	})
}
