package tests

import (
	"math/big"
	"sync"
	"testing"

	"loop.example/g01050/impl"
)

func brake(lever int64, arm int64, stretch int64, spring int64) impl.Brake {
	return impl.Brake{Lever: lever, Arm: arm, Stretch: stretch, Spring: spring}
}

// usualBrake is that of the given test.
func usualBrake() impl.Brake { return brake(300, 200, 100, 10) }

// plainBrake pulls and presses as hard as the hand does, and its gap is what the lever travels.
func plainBrake() impl.Brake { return brake(100, 100, 0, 0) }

func greatestBrake() impl.Brake { return brake(1000, 1000, 2000, 200) }

// someBrakes returns n brakes without a rule, the same ones for the same numbers.
func someBrakes(n int, seed uint64) []impl.Brake {
	levers, arms := someTensions(n, 100, 1000, seed), someTensions(n, 100, 1000, seed+1000)
	stretches, springs := someTensions(n, 0, 2000, seed+2000), someTensions(n, 0, 200, seed+3000)
	var all []impl.Brake
	for i := range n {
		all = append(all, brake(levers[i], arms[i], stretches[i], springs[i]))
	}
	return all
}

func rightBrakes() []impl.Brake {
	all := append(someBrakes(50, 7), usualBrake(), plainBrake(), greatestBrake())
	for _, lever := range []int64{100, 101, 333, 1000} {
		for _, arm := range []int64{100, 199, 700, 1000} {
			for _, stretch := range []int64{0, 1, 999, 2000} {
				for _, spring := range []int64{0, 1, 200} {
					all = append(all, brake(lever, arm, stretch, spring))
				}
			}
		}
	}
	return all
}

// withEach returns the brakes in which one field has become a wrong one, for each of the fields.
func withEach(b impl.Brake, ratio int64, stretch int64, spring int64) []impl.Brake {
	return []impl.Brake{
		brake(ratio, b.Arm, b.Stretch, b.Spring),
		brake(b.Lever, ratio, b.Stretch, b.Spring),
		brake(b.Lever, b.Arm, stretch, b.Spring),
		brake(b.Lever, b.Arm, b.Stretch, spring),
	}
}

func wrongBrakes() []impl.Brake {
	all := []impl.Brake{{}, brake(99, 99, -1, -1), brake(1001, 1001, 2001, 201), brake(0, 1000, 0, 0), brake(1000, 0, 0, 0), brake(-300, -200, 100, 10), brake(3, 2, 100, 10)}
	ratios, stretches, springs := beyondRange(100, 1000), beyondRange(0, 2000), beyondRange(0, 200)
	for _, b := range []impl.Brake{usualBrake(), plainBrake(), greatestBrake()} {
		for i := range ratios {
			all = append(all, withEach(b, ratios[i], stretches[i], springs[i])...)
		}
	}
	return all
}

func rightForces() []int64 { return []int64{0, 1, 2, 3, 7, 50, 99, 100, 101, 500, 999, 1000} }

func rightGaps() []int64 { return []int64{0, 1, 2, 3, 99, 100, 101, 1000, 4999, 5000} }

func wrongForces() []int64 { return append(beyondRange(0, 1000), -50, -1000, 1002, 5000) }

func wrongGaps() []int64 { return append(beyondRange(0, 5000), -50, -5000, 5002, 6045) }

func wrongGrips() []int64 { return append(beyondRange(0, 100000), -290, -100000, 100002) }

func wrongTravels() []int64 { return append(beyondRange(0, 1000000), -6045, -1000000, 1000002) }

func expectedPull(b impl.Brake, force int64) int64 {
	return roundedDown(big.NewRat(force*b.Lever, 100))
}

func expectedGrip(b impl.Brake, force int64) int64 {
	pressed := roundedDown(big.NewRat(expectedPull(b, force)*b.Arm, 100))
	if pressed <= b.Spring {
		return 0
	}
	return pressed - b.Spring
}

func expectedTravel(b impl.Brake, force int64, gap int64) int64 {
	pads := roundedUp(big.NewRat(gap*b.Arm, 100))
	stretched := roundedUp(big.NewRat(expectedPull(b, force)*b.Stretch, 1000))
	return roundedUp(big.NewRat((pads+stretched)*b.Lever, 100))
}

// gripsOf returns the grips of all forces.
func gripsOf(t *testing.T, b impl.Brake) []int64 {
	t.Helper()
	var grips []int64
	for force := int64(0); force <= 1000; force++ {
		grip, code := impl.GripOf(b, force)
		if code != impl.ErrNone {
			t.Fatalf("GripOf(%d, %d): %d", b, force, code)
		}
		grips = append(grips, grip)
	}
	return grips
}

// travelsOf returns the travels with a force and all gaps.
func travelsOf(t *testing.T, b impl.Brake, force int64) []int64 {
	t.Helper()
	var travels []int64
	for gap := int64(0); gap <= 5000; gap++ {
		travel, code := impl.TravelOf(b, force, gap)
		if code != impl.ErrNone {
			t.Fatalf("TravelOf(%d, %d, %d): %d", b, force, gap, code)
		}
		travels = append(travels, travel)
	}
	return travels
}

// checkNoBrake calls f with brakes that are none. f returns the code, and whether all else that its
// function returns is zero.
func checkNoBrake(t *testing.T, name string, f func(b impl.Brake) (int64, bool)) {
	t.Helper()
	for _, b := range wrongBrakes() {
		if code, zero := f(b); code != impl.ErrInvalid || !zero {
			t.Errorf("%s with %d: %d, zero beside it: %v", name, b, code, zero)
		}
	}
}

// checkNoNumber calls f with brakes and with numbers beyond their range, and with brakes that are
// none and numbers in and beyond it.
func checkNoNumber(t *testing.T, name string, wrong []int64, right []int64, f func(b impl.Brake, n int64) (int64, bool)) {
	t.Helper()
	for _, n := range append(append([]int64{}, wrong...), right...) {
		checkNoBrake(t, name, func(b impl.Brake) (int64, bool) { return f(b, n) })
	}
	for _, b := range []impl.Brake{usualBrake(), plainBrake(), greatestBrake(), brake(100, 100, 0, 200), brake(1000, 1000, 0, 0)} {
		for _, n := range wrong {
			if code, zero := f(b, n); code != impl.ErrRange || !zero {
				t.Errorf("%s with %d, %d: %d, zero beside it: %v", name, b, n, code, zero)
			}
		}
		for _, n := range right {
			if code, _ := f(b, n); code == impl.ErrRange || code == impl.ErrInvalid {
				t.Errorf("%s with %d, %d: %d", name, b, n, code)
			}
		}
	}
}

func TestIsBrake(t *testing.T) {
	for _, b := range rightBrakes() {
		if !impl.IsBrake(b) {
			t.Errorf("IsBrake(%d) is false", b)
		}
	}
	for _, b := range wrongBrakes() {
		if impl.IsBrake(b) {
			t.Errorf("IsBrake(%d) is true", b)
		}
	}
}

// TestRangesOfBrakes compares which numbers each field may have.
func TestRangesOfBrakes(t *testing.T) {
	check := func(b impl.Brake, want bool) {
		t.Helper()
		if impl.IsBrake(b) != want {
			t.Errorf("IsBrake(%d) is %v", b, !want)
		}
	}
	for n := int64(-2100); n <= 2100; n++ {
		check(brake(n, 200, 100, 10), n >= 100 && n <= 1000)
		check(brake(300, n, 100, 10), n >= 100 && n <= 1000)
		check(brake(300, 200, n, 10), n >= 0 && n <= 2000)
		check(brake(300, 200, 100, n), n >= 0 && n <= 200)
	}
}

func TestPullOf(t *testing.T) {
	cases := []struct {
		lever, force, want int64
	}{
		{300, 50, 150},
		{300, 0, 0},
		{100, 0, 0},
		{100, 1, 1},
		{100, 1000, 1000},
		{1000, 1, 10},
		{1000, 1000, 10000},
		// No whole numbers of newtons: 1.01, 99.99, 1.99, 99.5, 9.99, 3.33 and 9980.01.
		{101, 1, 1},
		{101, 99, 99},
		{101, 100, 101},
		{199, 1, 1},
		{199, 50, 99},
		{333, 3, 9},
		{333, 1, 3},
		{999, 999, 9980},
	}
	for _, c := range cases {
		// Nothing but the lever and the force counts.
		for _, b := range []impl.Brake{brake(c.lever, 100, 0, 0), brake(c.lever, 1000, 2000, 200), brake(c.lever, 777, 33, 5)} {
			if pull, code := impl.PullOf(b, c.force); code != impl.ErrNone || pull != c.want {
				t.Errorf("PullOf(%d, %d) = %d, %d, not %d", b, c.force, pull, code, c.want)
			}
		}
	}
	checkNoNumber(t, "PullOf", wrongForces(), rightForces(), func(b impl.Brake, force int64) (int64, bool) {
		pull, code := impl.PullOf(b, force)
		return code, pull == 0
	})
}

// TestAllPulls checks that a pull is the greatest whole number that the force allows, for all
// levers and all forces.
func TestAllPulls(t *testing.T) {
	for lever := int64(100); lever <= 1000; lever++ {
		for force := int64(0); force <= 1000; force++ {
			pull, code := impl.PullOf(brake(lever, 200, 100, 10), force)
			if code != impl.ErrNone || 100*pull > force*lever || 100*(pull+1) <= force*lever {
				t.Fatalf("PullOf with %d, %d = %d, %d", lever, force, pull, code)
			}
		}
	}
}

func TestGripOf(t *testing.T) {
	cases := []struct {
		b           impl.Brake
		force, want int64
	}{
		{usualBrake(), 50, 290},
		{usualBrake(), 0, 0},
		{plainBrake(), 0, 0},
		{plainBrake(), 1, 1},
		{plainBrake(), 1000, 1000},
		{brake(1000, 1000, 0, 0), 1000, 100000},
		{greatestBrake(), 1000, 99800},
		// The spring takes 199 and 200 whole, and leaves 1 of 201.
		{brake(100, 100, 0, 200), 199, 0},
		{brake(100, 100, 0, 200), 200, 0},
		{brake(100, 100, 0, 200), 201, 1},
		{brake(100, 100, 0, 200), 0, 0},
		{brake(100, 100, 0, 1), 0, 0},
		{brake(100, 100, 0, 1), 1, 0},
		{brake(100, 100, 0, 1), 2, 1},
		// It takes 6 whole, but not 12.
		{usualBrake(), 1, 0},
		{usualBrake(), 2, 2},
		// The pads press with 1.5 and 4.5 newtons, and with 1.99.
		{brake(100, 150, 0, 0), 1, 1},
		{brake(100, 150, 0, 1), 1, 0},
		{brake(100, 150, 0, 0), 3, 4},
		{brake(100, 150, 0, 2), 3, 2},
		{brake(100, 199, 0, 0), 1, 1},
		// The pull is rounded down before: 1.5 and 9.99.
		{brake(150, 200, 0, 0), 1, 2},
		{brake(333, 1000, 0, 0), 3, 90},
		{brake(333, 1000, 0, 90), 3, 0},
		{brake(333, 1000, 0, 89), 3, 1},
		// Both are rounded down: 1.99 and then 1.99.
		{brake(199, 199, 0, 0), 1, 1},
	}
	for _, c := range cases {
		// The cable may stretch as it likes.
		for _, stretch := range []int64{0, 1, 100, 2000} {
			b := brake(c.b.Lever, c.b.Arm, stretch, c.b.Spring)
			if grip, code := impl.GripOf(b, c.force); code != impl.ErrNone || grip != c.want {
				t.Errorf("GripOf(%d, %d) = %d, %d, not %d", b, c.force, grip, code, c.want)
			}
		}
	}
	checkNoNumber(t, "GripOf", wrongForces(), rightForces(), func(b impl.Brake, force int64) (int64, bool) {
		grip, code := impl.GripOf(b, force)
		return code, grip == 0
	})
}

func TestGripsOfManyBrakes(t *testing.T) {
	none, one := 0, 0
	for _, b := range append(rightBrakes(), someBrakes(200, 1)...) {
		for force := int64(0); force <= 1000; force += 1 + force/20 {
			grip, code := impl.GripOf(b, force)
			if code != impl.ErrNone || grip != expectedGrip(b, force) {
				t.Errorf("GripOf(%d, %d) = %d, %d, not %d", b, force, grip, code, expectedGrip(b, force))
			}
			if grip == 0 {
				none++
			}
			if grip == 1 {
				one++
			}
		}
	}
	if none < 1000 || one < 30 {
		t.Errorf("only %d grips are taken whole by the spring, %d are left by one", none, one)
	}
}

func TestTravelOf(t *testing.T) {
	cases := []struct {
		b                impl.Brake
		force, gap, want int64
	}{
		{usualBrake(), 50, 1000, 6045},
		{usualBrake(), 0, 0, 0},
		{usualBrake(), 0, 1000, 6000},
		{usualBrake(), 50, 0, 45},
		{plainBrake(), 1000, 0, 0},
		{plainBrake(), 1000, 5000, 5000},
		{greatestBrake(), 1000, 5000, 700000},
		{greatestBrake(), 1000, 0, 200000},
		{greatestBrake(), 0, 5000, 500000},
		// The first quotient alone: 5, 101, 2 and 1000; 2.5, 1.01 and 1010.01; 1.99 and 99.99.
		{brake(100, 250, 0, 0), 9, 2, 5},
		{brake(100, 101, 0, 0), 9, 100, 101},
		{brake(100, 200, 0, 0), 9, 1, 2},
		{brake(100, 1000, 0, 0), 9, 100, 1000},
		{brake(100, 250, 0, 0), 9, 1, 3},
		{brake(100, 101, 0, 0), 9, 1, 2},
		{brake(100, 201, 0, 0), 9, 1, 3},
		{brake(100, 101, 0, 0), 9, 1001, 1012},
		{brake(100, 199, 0, 0), 9, 1, 2},
		{brake(100, 101, 0, 0), 9, 99, 100},
		// The second one alone: 0, 1, 2 and 1; 1.001, 0.001 and 1.001; 0.999 and 0.999.
		{brake(100, 100, 0, 0), 1, 0, 0},
		{brake(100, 100, 1000, 0), 1, 0, 1},
		{brake(100, 100, 2000, 0), 1, 0, 2},
		{brake(100, 100, 1, 0), 1000, 0, 1},
		{brake(100, 100, 1001, 0), 1, 0, 2},
		{brake(100, 100, 1, 0), 1, 0, 1},
		{brake(100, 100, 143, 0), 7, 0, 2},
		{brake(100, 100, 999, 0), 1, 0, 1},
		{brake(100, 100, 333, 0), 3, 0, 1},
		// The third one alone: 3, 101 and 2; 1.01, 1.5 and 2.01; 1.99 and 99.99.
		{brake(150, 100, 0, 0), 9, 2, 3},
		{brake(101, 100, 0, 0), 9, 100, 101},
		{brake(200, 100, 0, 0), 9, 1, 2},
		{brake(101, 100, 0, 0), 9, 1, 2},
		{brake(150, 100, 0, 0), 9, 1, 2},
		{brake(201, 100, 0, 0), 9, 1, 3},
		{brake(199, 100, 0, 0), 9, 1, 2},
		{brake(101, 100, 0, 0), 9, 99, 100},
		// Each is rounded for itself: 1.5 and 0.5; 1.01, 0.001 and then 3.03.
		{brake(100, 150, 500, 0), 1, 1, 3},
		{brake(101, 101, 1, 0), 1, 1, 4},
		// 1.01, and then 2 * 10.
		{brake(1000, 101, 0, 0), 9, 1, 20},
		// The pull is rounded down before the cable stretches: 1.5 and 9.99.
		{brake(150, 100, 1000, 0), 1, 0, 2},
		{brake(333, 100, 1000, 0), 3, 0, 30},
	}
	for _, c := range cases {
		// The spring may be as it likes.
		for _, spring := range []int64{0, 1, 10, 200} {
			b := brake(c.b.Lever, c.b.Arm, c.b.Stretch, spring)
			if travel, code := impl.TravelOf(b, c.force, c.gap); code != impl.ErrNone || travel != c.want {
				t.Errorf("TravelOf(%d, %d, %d) = %d, %d, not %d", b, c.force, c.gap, travel, code, c.want)
			}
		}
	}
	for _, gap := range []int64{0, 1000, 5000, -1, 5001} {
		right := rightForces()
		if gap == -1 || gap == 5001 {
			right = nil
		}
		checkNoNumber(t, "TravelOf", wrongForces(), right, func(b impl.Brake, force int64) (int64, bool) {
			travel, code := impl.TravelOf(b, force, gap)
			return code, travel == 0
		})
	}
	for _, force := range []int64{0, 50, 1000} {
		checkNoNumber(t, "TravelOf", wrongGaps(), rightGaps(), func(b impl.Brake, gap int64) (int64, bool) {
			travel, code := impl.TravelOf(b, force, gap)
			return code, travel == 0
		})
	}
}

// TestTravelsOfManyBrakes compares with exact fractions, and sees how often each of the three
// quotients is whole, just above a whole number, and just below one.
func TestTravelsOfManyBrakes(t *testing.T) {
	var whole, above, below [3]int
	count := func(quotient int, n int64, d int64) {
		switch n % d {
		case 0:
			whole[quotient]++
		case 1:
			above[quotient]++
		case d - 1:
			below[quotient]++
		}
	}
	for _, b := range append(rightBrakes(), someBrakes(1000, 2)...) {
		for _, force := range rightForces() {
			for _, gap := range rightGaps() {
				want := expectedTravel(b, force, gap)
				if travel, code := impl.TravelOf(b, force, gap); code != impl.ErrNone || travel != want {
					t.Errorf("TravelOf(%d, %d, %d) = %d, %d, not %d", b, force, gap, travel, code, want)
				}
				count(0, gap*b.Arm, 100)
				count(1, expectedPull(b, force)*b.Stretch, 1000)
				count(2, (roundedUp(big.NewRat(gap*b.Arm, 100))+roundedUp(big.NewRat(expectedPull(b, force)*b.Stretch, 1000)))*b.Lever, 100)
			}
		}
	}
	for i := range 3 {
		if whole[i] < 50 || above[i] < 50 || below[i] < 50 {
			t.Errorf("of quotient %d only %d are whole, %d are just above, %d just below", i, whole[i], above[i], below[i])
		}
	}
}

func TestForceFor(t *testing.T) {
	cases := []struct {
		b                impl.Brake
		grip, want, code int64
	}{
		// Grips that the least force meets exactly: 290 of 50 and 284 of 49; and others.
		{usualBrake(), 290, 50, impl.ErrNone},
		{usualBrake(), 291, 51, impl.ErrNone},
		{usualBrake(), 289, 50, impl.ErrNone},
		{usualBrake(), 285, 50, impl.ErrNone},
		{usualBrake(), 284, 49, impl.ErrNone},
		// No grip is wanted, which no force gives already.
		{usualBrake(), 0, 0, impl.ErrNone},
		{plainBrake(), 0, 0, impl.ErrNone},
		{greatestBrake(), 0, 0, impl.ErrNone},
		{brake(100, 100, 0, 200), 0, 0, impl.ErrNone},
		// What the spring takes is pulled too.
		{usualBrake(), 1, 2, impl.ErrNone},
		{brake(100, 100, 0, 200), 1, 201, impl.ErrNone},
		{plainBrake(), 1, 1, impl.ErrNone},
		// The greatest grips of all.
		{brake(1000, 1000, 0, 0), 100000, 1000, impl.ErrNone},
		{brake(1000, 1000, 0, 0), 99901, 1000, impl.ErrNone},
		{brake(1000, 1000, 0, 0), 99900, 999, impl.ErrNone},
		{brake(1000, 1000, 0, 1), 100000, 0, impl.ErrNotFound},
		{brake(1000, 1000, 0, 1), 99999, 1000, impl.ErrNone},
		{brake(999, 1000, 0, 0), 100000, 0, impl.ErrNotFound},
		{greatestBrake(), 99800, 1000, impl.ErrNone},
		{greatestBrake(), 99801, 0, impl.ErrNotFound},
		// The greatest force is just enough, and just too little.
		{plainBrake(), 999, 999, impl.ErrNone},
		{plainBrake(), 1000, 1000, impl.ErrNone},
		{plainBrake(), 1001, 0, impl.ErrNotFound},
		{plainBrake(), 100000, 0, impl.ErrNotFound},
		{brake(100, 100, 0, 200), 800, 1000, impl.ErrNone},
		{brake(100, 100, 0, 200), 801, 0, impl.ErrNotFound},
		// Pulls of 1, 3 and 4, as 1.5 and 4.5 are rounded down.
		{brake(150, 100, 0, 0), 1, 1, impl.ErrNone},
		{brake(150, 100, 0, 0), 2, 2, impl.ErrNone},
		{brake(150, 100, 0, 0), 3, 2, impl.ErrNone},
		{brake(150, 100, 0, 0), 4, 3, impl.ErrNone},
		{brake(150, 100, 0, 0), 5, 4, impl.ErrNone},
	}
	for _, c := range cases {
		if force, code := impl.ForceFor(c.b, c.grip); code != c.code || force != c.want {
			t.Errorf("ForceFor(%d, %d) = %d, %d, not %d, %d", c.b, c.grip, force, code, c.want, c.code)
		}
	}
	checkNoNumber(t, "ForceFor", wrongGrips(), []int64{0, 1, 290, 99999, 100000}, func(b impl.Brake, grip int64) (int64, bool) {
		force, code := impl.ForceFor(b, grip)
		return code, force == 0
	})
}

// TestForcesAreLeast goes through all grips up to the greatest one and beyond it, and through the
// forces one by one.
func TestForcesAreLeast(t *testing.T) {
	just, missed, none := 0, 0, 0
	for _, b := range append(someBrakes(30, 3), usualBrake(), plainBrake(), greatestBrake(), brake(333, 199, 7, 200)) {
		grips := gripsOf(t, b)
		least := 0
		for grip := int64(0); grip <= min(100000, grips[1000]+100); grip++ {
			for least <= 1000 && grips[least] < grip {
				least++
			}
			want, wantCode := int64(least), int64(impl.ErrNone)
			if least > 1000 {
				want, wantCode = 0, impl.ErrNotFound
				none++
			} else if grips[least] == grip {
				just++
			} else if least > 0 && grips[least-1] == grip-1 {
				missed++
			}
			if force, code := impl.ForceFor(b, grip); code != wantCode || force != want {
				t.Fatalf("ForceFor(%d, %d) = %d, %d, not %d, %d", b, grip, force, code, want, wantCode)
			}
		}
	}
	if just < 1000 || missed < 1000 || none < 1000 {
		t.Errorf("only %d grips are met exactly, %d just missed by the next lower force, %d by all", just, missed, none)
	}
}

func TestGapFor(t *testing.T) {
	cases := []struct {
		b                         impl.Brake
		force, travel, want, code int64
	}{
		// Travels that a gap has exactly: 6045 of 1000, 6039 of 999; and others.
		{usualBrake(), 50, 6045, 1000, impl.ErrNone},
		{usualBrake(), 50, 6044, 999, impl.ErrNone},
		{usualBrake(), 50, 6050, 1000, impl.ErrNone},
		{usualBrake(), 50, 6051, 1001, impl.ErrNone},
		{usualBrake(), 50, 6039, 999, impl.ErrNone},
		{usualBrake(), 50, 6038, 998, impl.ErrNone},
		// The gap 0 has 45, the gap 1 has 51.
		{usualBrake(), 50, 51, 1, impl.ErrNone},
		{usualBrake(), 50, 50, 0, impl.ErrNone},
		{usualBrake(), 50, 45, 0, impl.ErrNone},
		{usualBrake(), 50, 44, 0, impl.ErrNotFound},
		{usualBrake(), 50, 0, 0, impl.ErrNotFound},
		// Without a force nothing stretches.
		{usualBrake(), 0, 0, 0, impl.ErrNone},
		{usualBrake(), 0, 5, 0, impl.ErrNone},
		{usualBrake(), 0, 6, 1, impl.ErrNone},
		// The greatest gap has 30045 and 700000.
		{usualBrake(), 50, 30045, 5000, impl.ErrNone},
		{usualBrake(), 50, 30044, 4999, impl.ErrNone},
		{usualBrake(), 50, 30046, 5000, impl.ErrNone},
		{usualBrake(), 50, 1000000, 5000, impl.ErrNone},
		{greatestBrake(), 1000, 700000, 5000, impl.ErrNone},
		{greatestBrake(), 1000, 699999, 4999, impl.ErrNone},
		{greatestBrake(), 1000, 700001, 5000, impl.ErrNone},
		{greatestBrake(), 1000, 1000000, 5000, impl.ErrNone},
		{greatestBrake(), 1000, 200000, 0, impl.ErrNone},
		{greatestBrake(), 1000, 199999, 0, impl.ErrNotFound},
		{greatestBrake(), 1000, 0, 0, impl.ErrNotFound},
		// Each travel is that of its gap.
		{plainBrake(), 1000, 0, 0, impl.ErrNone},
		{plainBrake(), 1000, 1, 1, impl.ErrNone},
		{plainBrake(), 1000, 4999, 4999, impl.ErrNone},
		{plainBrake(), 1000, 5000, 5000, impl.ErrNone},
		{plainBrake(), 1000, 5001, 5000, impl.ErrNone},
		// A gap of 1 already makes 2, and then 4, of 1.01.
		{brake(101, 101, 1, 0), 1, 3, 0, impl.ErrNone},
		{brake(101, 101, 1, 0), 1, 4, 1, impl.ErrNone},
		{brake(101, 101, 1, 0), 1, 2, 0, impl.ErrNone},
		{brake(101, 101, 1, 0), 1, 1, 0, impl.ErrNotFound},
	}
	for _, c := range cases {
		if gap, code := impl.GapFor(c.b, c.force, c.travel); code != c.code || gap != c.want {
			t.Errorf("GapFor(%d, %d, %d) = %d, %d, not %d, %d", c.b, c.force, c.travel, gap, code, c.want, c.code)
		}
	}
	// With a travel of 0 no gap is found, which comes later.
	for _, travel := range []int64{0, 6045, 1000000, -1, 1000001} {
		right := rightForces()
		if travel == -1 || travel == 1000001 {
			right = nil
		}
		checkNoNumber(t, "GapFor", wrongForces(), right, func(b impl.Brake, force int64) (int64, bool) {
			gap, code := impl.GapFor(b, force, travel)
			return code, gap == 0
		})
	}
	for _, force := range []int64{0, 50, 1000} {
		checkNoNumber(t, "GapFor", wrongTravels(), []int64{0, 1, 6045, 999999, 1000000}, func(b impl.Brake, travel int64) (int64, bool) {
			gap, code := impl.GapFor(b, force, travel)
			return code, gap == 0
		})
	}
}

// TestGapsAreGreatest goes through many travels, and through the gaps one by one.
func TestGapsAreGreatest(t *testing.T) {
	just, least, greatest, none := 0, 0, 0, 0
	for i, b := range append(someBrakes(40, 4), usualBrake(), plainBrake(), greatestBrake(), brake(333, 199, 7, 200)) {
		force := rightForces()[i%len(rightForces())]
		travels := travelsOf(t, b, force)
		next := 0
		for travel := max(0, travels[0]-20); travel <= travels[5000]+20; travel += 1 + travel%3 {
			for next <= 5000 && travels[next] <= travel {
				next++
			}
			want, wantCode := int64(next-1), int64(impl.ErrNone)
			switch next {
			case 0:
				want, wantCode = 0, impl.ErrNotFound
				none++
			case 1:
				least++
			case 5001:
				greatest++
			}
			if wantCode == impl.ErrNone && travels[want] == travel {
				just++
			}
			if gap, code := impl.GapFor(b, force, travel); code != wantCode || gap != want {
				t.Fatalf("GapFor(%d, %d, %d) = %d, %d, not %d, %d", b, force, travel, gap, code, want, wantCode)
			}
		}
	}
	if just < 1000 || least < 100 || greatest < 100 || none < 100 {
		t.Errorf("only %d travels are met exactly, %d with the gap 0, %d with the gap 5000, %d with none", just, least, greatest, none)
	}
}

func TestStopsWithin(t *testing.T) {
	cases := []struct {
		b                        impl.Brake
		force, gap, travel, grip int64
		want                     bool
	}{
		// Both limits met exactly, either missed by one, and both.
		{usualBrake(), 50, 1000, 6045, 290, true},
		{usualBrake(), 50, 1000, 6044, 290, false},
		{usualBrake(), 50, 1000, 6045, 291, false},
		{usualBrake(), 50, 1000, 6044, 291, false},
		// More than is wanted.
		{usualBrake(), 50, 1000, 6046, 289, true},
		{usualBrake(), 50, 1000, 6045, 0, true},
		{usualBrake(), 50, 1000, 1000000, 290, true},
		{usualBrake(), 50, 1000, 1000000, 0, true},
		// One limit far beyond does not make up for the other one.
		{usualBrake(), 50, 1000, 1000000, 291, false},
		{usualBrake(), 50, 1000, 6044, 0, false},
		{usualBrake(), 50, 1000, 0, 0, false},
		{usualBrake(), 50, 1000, 1000000, 100000, false},
		// No force, no gap, and limits of 0.
		{usualBrake(), 0, 0, 0, 0, true},
		{usualBrake(), 0, 0, 0, 1, false},
		{usualBrake(), 0, 1, 0, 0, false},
		{plainBrake(), 1000, 0, 0, 1000, true},
		{plainBrake(), 1000, 0, 0, 1001, false},
		{plainBrake(), 1000, 1, 0, 1000, false},
		// A grip that the spring takes whole.
		{brake(100, 100, 0, 200), 200, 0, 1000000, 0, true},
		{brake(100, 100, 0, 200), 200, 0, 1000000, 1, false},
		{brake(100, 100, 0, 200), 201, 0, 1000000, 1, true},
		// The greatest ones.
		{brake(1000, 1000, 2000, 0), 1000, 5000, 700000, 100000, true},
		{brake(1000, 1000, 2000, 0), 1000, 5000, 699999, 100000, false},
		{brake(1000, 1000, 2000, 1), 1000, 5000, 700000, 100000, false},
		{greatestBrake(), 1000, 5000, 700000, 99800, true},
		{greatestBrake(), 1000, 5000, 700000, 99801, false},
	}
	for _, c := range cases {
		if stops, code := impl.StopsWithin(c.b, c.force, c.gap, c.travel, c.grip); code != impl.ErrNone || stops != c.want {
			t.Errorf("StopsWithin(%d, %d, %d, %d, %d) = %v, %d, not %v", c.b, c.force, c.gap, c.travel, c.grip, stops, code, c.want)
		}
	}
	for _, b := range rightBrakes() {
		for _, force := range rightForces() {
			travel, grip := expectedTravel(b, force, 77), expectedGrip(b, force)
			for _, off := range [][]int64{{0, 0}, {1, -1}, {-1, 0}, {0, 1}, {-1, 1}, {1, 1}, {-1, -1}} {
				if grip+off[1] < 0 || grip+off[1] > 100000 {
					continue
				}
				want := off[0] >= 0 && off[1] <= 0
				if stops, code := impl.StopsWithin(b, force, 77, travel+off[0], grip+off[1]); code != impl.ErrNone || stops != want {
					t.Errorf("StopsWithin(%d, %d, 77, %d, %d) = %v, %d, not %v", b, force, travel+off[0], grip+off[1], stops, code, want)
				}
			}
		}
	}
}

// TestStopsWithinErrors puts a wrong number at each place, beside right ones and beside wrong ones.
func TestStopsWithinErrors(t *testing.T) {
	wrong := [][]int64{wrongForces(), wrongGaps(), wrongTravels(), wrongGrips()}
	ends := [][]int64{{0, 1000}, {0, 5000}, {0, 1000000}, {0, 100000}}
	others := [][]int64{{0, 0, 1000000, 0}, {50, 1000, 6045, 290}, {1000, 5000, 1000000, 100000}, {1000, 5000, 0, 0}, {-1, -1, -1, -1}, {1001, 5001, 1000001, 100001}}
	for _, other := range others {
		for place := range 4 {
			right := ends[place]
			if other[0] < 0 || other[0] > 1000 {
				right = nil
			}
			checkNoNumber(t, "StopsWithin", wrong[place], right, func(b impl.Brake, n int64) (int64, bool) {
				all := [4]int64(other)
				all[place] = n
				stops, code := impl.StopsWithin(b, all[0], all[1], all[2], all[3])
				return code, !stops
			})
		}
	}
}

func TestTurnsOfBarrel(t *testing.T) {
	cases := []struct {
		arm, gap, wanted, want int64
	}{
		// Quarter turns of 125 each.
		{200, 1000, 500, 4},
		{200, 1000, 499, 5},
		{200, 1000, 501, 4},
		{200, 1000, 625, 3},
		{200, 1000, 624, 4},
		// The gap is as wanted, smaller, and one micrometre too great.
		{200, 500, 500, 0},
		{200, 499, 500, 0},
		{200, 0, 500, 0},
		{200, 501, 500, 1},
		{200, 0, 0, 0},
		{200, 0, 5000, 0},
		{200, 4999, 5000, 0},
		{200, 5000, 5000, 0},
		{200, 5000, 4999, 1},
		// One turn may make it much smaller than wanted.
		{200, 1, 0, 1},
		{200, 125, 0, 1},
		{200, 126, 0, 2},
		// The greatest and the least quarter turns, of 250 and of 25.
		{100, 250, 0, 1},
		{100, 251, 0, 2},
		{100, 5000, 0, 20},
		{1000, 25, 0, 1},
		{1000, 26, 0, 2},
		{1000, 5000, 0, 200},
		// No whole numbers: 83.33, 247.52, 25.02, 35.71 and 26.99.
		{300, 83, 0, 1},
		{300, 84, 0, 2},
		{300, 249, 0, 3},
		{300, 250, 0, 4},
		{300, 5000, 4750, 4},
		{101, 247, 0, 1},
		{101, 248, 0, 2},
		{999, 5000, 0, 200},
		{700, 35, 0, 1},
		{700, 36, 0, 2},
		{926, 26, 0, 1},
		{926, 27, 0, 2},
	}
	for _, c := range cases {
		// Nothing but the arm counts.
		for _, b := range []impl.Brake{brake(100, c.arm, 0, 0), brake(1000, c.arm, 2000, 200), brake(777, c.arm, 33, 5)} {
			if turns, code := impl.TurnsOfBarrel(b, c.gap, c.wanted); code != impl.ErrNone || turns != c.want {
				t.Errorf("TurnsOfBarrel(%d, %d, %d) = %d, %d, not %d", b, c.gap, c.wanted, turns, code, c.want)
			}
		}
	}
	for _, other := range []int64{0, 500, 5000, -1, 5001} {
		right := rightGaps()
		if other == -1 || other == 5001 {
			right = nil
		}
		checkNoNumber(t, "TurnsOfBarrel", wrongGaps(), right, func(b impl.Brake, gap int64) (int64, bool) {
			turns, code := impl.TurnsOfBarrel(b, gap, other)
			return code, turns == 0
		})
		checkNoNumber(t, "TurnsOfBarrel", wrongGaps(), right, func(b impl.Brake, wanted int64) (int64, bool) {
			turns, code := impl.TurnsOfBarrel(b, other, wanted)
			return code, turns == 0
		})
	}
}

// TestTurnsOneByOne turns the barrel of every arm until the gap is at most the wanted one.
func TestTurnsOneByOne(t *testing.T) {
	for arm := int64(100); arm <= 1000; arm++ {
		byQuarter := roundedDown(big.NewRat(25000, arm))
		for _, gap := range append(someTensions(10, 0, 5000, uint64(arm)), 0, byQuarter, byQuarter+1, 5000) {
			for _, wanted := range append(someTensions(4, 0, 5000, uint64(gap)), 0, max(0, gap-1), gap, min(5000, gap+1), max(0, gap-7*byQuarter)) {
				want, left := int64(0), gap
				for left > wanted {
					left -= byQuarter
					want++
				}
				if turns, code := impl.TurnsOfBarrel(brake(300, arm, 100, 10), gap, wanted); code != impl.ErrNone || turns != want {
					t.Fatalf("TurnsOfBarrel with %d, %d, %d = %d, %d, not %d", arm, gap, wanted, turns, code, want)
				}
			}
		}
	}
}

func TestCompareBrakes(t *testing.T) {
	cases := []struct {
		a, b        impl.Brake
		force, want int64
	}{
		{usualBrake(), usualBrake(), 50, 0},
		{usualBrake(), usualBrake(), 0, 0},
		// Other levers and arms with the same grip, 300; the stretch does not matter.
		{brake(200, 300, 0, 10), brake(300, 200, 2000, 10), 50, 0},
		{brake(100, 600, 0, 0), brake(600, 100, 0, 0), 1000, 0},
		// One newton less, by the spring.
		{brake(300, 200, 100, 11), usualBrake(), 50, -1},
		{brake(300, 200, 100, 9), usualBrake(), 50, 1},
		// The spring takes both whole, and then leaves one newton of one.
		{brake(100, 100, 0, 100), brake(100, 100, 0, 200), 100, 0},
		{brake(100, 100, 0, 100), brake(100, 100, 0, 200), 101, 1},
		{brake(100, 100, 0, 100), brake(1000, 1000, 0, 200), 2, 0},
		{brake(100, 100, 0, 100), brake(1000, 1000, 0, 200), 3, -1},
		// Without a force none grips.
		{plainBrake(), greatestBrake(), 0, 0},
		{plainBrake(), greatestBrake(), 1000, -1},
		// 2 and 3, as the pull of 1.5 is rounded down; and 6 and 6, as it is 3.
		{brake(150, 200, 0, 0), brake(200, 150, 0, 0), 1, -1},
		{brake(150, 200, 0, 0), brake(200, 150, 0, 0), 2, 0},
		// A stronger spring, but a longer arm: 182 and 181, 180 and 180, 20 and 28.
		{brake(100, 200, 0, 20), brake(100, 190, 0, 10), 101, 1},
		{brake(100, 200, 0, 20), brake(100, 190, 0, 10), 100, 0},
		{brake(100, 200, 0, 20), brake(100, 190, 0, 10), 20, -1},
	}
	for _, c := range cases {
		if order, code := impl.CompareBrakes(c.a, c.b, c.force); code != impl.ErrNone || order != c.want {
			t.Errorf("CompareBrakes(%d, %d, %d) = %d, %d, not %d", c.a, c.b, c.force, order, code, c.want)
		}
		if order, code := impl.CompareBrakes(c.b, c.a, c.force); code != impl.ErrNone || order != -c.want {
			t.Errorf("CompareBrakes(%d, %d, %d) = %d, %d, not %d", c.b, c.a, c.force, order, code, -c.want)
		}
	}
	for _, other := range append(wrongBrakes(), usualBrake(), plainBrake(), greatestBrake()) {
		isRight := impl.IsBrake(other)
		for _, force := range []int64{0, 50, 1000, -1, 1001} {
			checkNoBrake(t, "CompareBrakes", func(b impl.Brake) (int64, bool) {
				order, code := impl.CompareBrakes(b, other, force)
				return code, order == 0
			})
			checkNoBrake(t, "CompareBrakes", func(b impl.Brake) (int64, bool) {
				order, code := impl.CompareBrakes(other, b, force)
				return code, order == 0
			})
		}
		if isRight {
			checkNoNumber(t, "CompareBrakes", wrongForces(), rightForces(), func(b impl.Brake, force int64) (int64, bool) {
				order, code := impl.CompareBrakes(b, other, force)
				return code, order == 0
			})
		}
	}
}

func TestOrderOfManyBrakes(t *testing.T) {
	brakes := append(someBrakes(60, 5), usualBrake(), plainBrake(), greatestBrake(), brake(200, 300, 0, 10), brake(600, 100, 0, 10))
	var counts [3]int
	for _, a := range brakes {
		for _, b := range brakes {
			for _, force := range []int64{0, 1, 5, 50, 1000} {
				want := int64(0)
				if first, second := expectedGrip(a, force), expectedGrip(b, force); first < second {
					want = -1
				} else if first > second {
					want = 1
				}
				counts[want+1]++
				if order, code := impl.CompareBrakes(a, b, force); code != impl.ErrNone || order != want {
					t.Errorf("CompareBrakes(%d, %d, %d) = %d, %d, not %d", a, b, force, order, code, want)
				}
			}
		}
	}
	if counts[0] < 1000 || counts[1] < 1000 || counts[2] < 1000 {
		t.Errorf("only %d pairs grip less, alike and more", counts)
	}
}

// TestMoreForceNeverGripsLess is the first half of the guarantee, over all forces of many brakes.
func TestMoreForceNeverGripsLess(t *testing.T) {
	for _, b := range append(rightBrakes(), someBrakes(500, 6)...) {
		grips := gripsOf(t, b)
		for force := range 1000 {
			if grips[force+1] < grips[force] || grips[force] < 0 {
				t.Fatalf("GripOf(%d, %d) = %d, and %d with 1 more", b, force, grips[force], grips[force+1])
			}
		}
		if grips[1000] > 100000 {
			t.Fatalf("GripOf(%d, 1000) = %d", b, grips[1000])
		}
		for force := int64(0); force <= 1000; force += 37 {
			least, code := impl.ForceFor(b, grips[force])
			if code != impl.ErrNone || least > force || grips[least] != grips[force] {
				t.Fatalf("ForceFor(%d, %d) = %d, %d, although %d newtons suffice", b, grips[force], least, code, force)
			}
		}
	}
}

// TestSmallerGapNeverTravelsFurther is the second half, over all gaps of many brakes.
func TestSmallerGapNeverTravelsFurther(t *testing.T) {
	for i, b := range append(rightBrakes(), someBrakes(100, 8)...) {
		force := rightForces()[i%len(rightForces())]
		travels := travelsOf(t, b, force)
		for gap := range 5000 {
			if travels[gap] > travels[gap+1] || travels[gap] < 0 {
				t.Fatalf("TravelOf(%d, %d, %d) = %d, and %d with 1 more", b, force, gap, travels[gap], travels[gap+1])
			}
		}
		for gap := int64(0); gap <= 5000; gap += 111 {
			greatest, code := impl.GapFor(b, force, travels[gap])
			if code != impl.ErrNone || greatest < gap || travels[greatest] != travels[gap] {
				t.Fatalf("GapFor(%d, %d, %d) = %d, %d, although a gap of %d does", b, force, travels[gap], greatest, code, gap)
			}
		}
	}
}

// TestForceAndGapStop asks whether the brake stops with the least force and with the greatest gap,
// and with one newton less or one micrometre more.
func TestForceAndGapStop(t *testing.T) {
	stops := func(b impl.Brake, force int64, gap int64, travel int64, grip int64) bool {
		t.Helper()
		does, code := impl.StopsWithin(b, force, gap, travel, grip)
		if code != impl.ErrNone {
			t.Fatalf("StopsWithin(%d, %d, %d, %d, %d): %d", b, force, gap, travel, grip, code)
		}
		return does
	}
	for _, b := range append(rightBrakes(), someBrakes(100, 9)...) {
		for _, grip := range []int64{1, 2, 40, 333, 800} {
			force, code := impl.ForceFor(b, grip)
			if code != impl.ErrNone {
				t.Fatalf("ForceFor(%d, %d): %d", b, grip, code)
			}
			travel, _ := impl.TravelOf(b, force, 1234)
			gap, code := impl.GapFor(b, force, travel+2)
			if code != impl.ErrNone || !stops(b, force, gap, travel+2, grip) || stops(b, force, gap+1, travel+2, grip) || stops(b, force-1, gap, 1000000, grip) {
				t.Errorf("%d does not stop just with %d newtons and a gap of %d, %d: %d newtons within %d", b, force, gap, code, grip, travel+2)
			}
		}
	}
}

func callChapter13(b impl.Brake, force int64, gap int64) [9]int64 {
	var all [9]int64
	all[0], _ = impl.PullOf(b, force)
	all[1], _ = impl.GripOf(b, force)
	all[2], _ = impl.TravelOf(b, force, gap)
	all[3], _ = impl.ForceFor(b, all[1])
	all[4], _ = impl.GapFor(b, force, all[2])
	all[5], _ = impl.TurnsOfBarrel(b, gap, gap/3)
	all[6], _ = impl.CompareBrakes(b, usualBrake(), force)
	if stops, _ := impl.StopsWithin(b, force, gap, all[2], all[1]); stops {
		all[7] = 1
	}
	if impl.IsBrake(b) {
		all[8] = 1
	}
	return all
}

// TestBrakesForManyAtOnce asks for several brakes from many sides, and again later.
func TestBrakesForManyAtOnce(t *testing.T) {
	brakes := append(someBrakes(20, 10), usualBrake(), plainBrake(), greatestBrake(), impl.Brake{})
	var want [][9]int64
	for _, b := range brakes {
		want = append(want, callChapter13(b, 70, 900))
	}
	var group sync.WaitGroup
	for range 20 {
		group.Go(func() {
			for i, b := range brakes {
				callChapter13(b, 1001, -1)
				if got := callChapter13(b, 70, 900); got != want[i] {
					t.Errorf("results at once are %d, not %d", got, want[i])
				}
			}
		})
	}
	group.Wait()
}
