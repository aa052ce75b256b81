package tests

import (
	"math"
	"regexp"
	"slices"
	"strings"
	"testing"

	"loop.example/g01050/impl"
)

// way leads from a gear to another one.
type way struct {
	from, to []int64
	moves    []int64
}

// trainsOfAllSizes has a train with each number of chainrings and of sprockets.
func trainsOfAllSizes() []impl.Train {
	var all []impl.Train
	for fronts := 1; fronts <= 3; fronts++ {
		for rears := 1; rears <= 12; rears++ {
			seed := uint64(20*fronts + rears)
			all = append(all, train(someRising(fronts, 20, 60, seed), someRising(rears, 9, 52, seed), 2000))
		}
	}
	return all
}

// trainOfSize has chainrings from 30 and sprockets from 10 on.
func trainOfSize(fronts int64, rears int64) impl.Train {
	return train(straight(30 + fronts)[30:], straight(10 + rears)[10:], 2000)
}

func wrongLimits() []int64 { return append(beyondRange(0, 4), 6, 12, -4, 20) }

func wrongMoves() []int64 { return append(beyondRange(0, 3), 5, -2, -4, 'd', 'u') }

// isCrossedIn counts how many chainrings and sprockets are greater or less than those of a gear.
func isCrossedIn(x impl.Train, limit int64, gear []int64) bool {
	count := func(list []int64, place int64) (greater int64, less int64) {
		for _, teeth := range list {
			if teeth > list[place] {
				greater++
			}
			if teeth < list[place] {
				less++
			}
		}
		return greater, less
	}
	greaterRings, lessRings := count(x.Front, gear[0])
	greaterSprockets, lessSprockets := count(x.Rear, gear[1])
	if greaterRings+lessRings == 0 {
		return false
	}
	return greaterRings == 0 && greaterSprockets < limit || lessRings == 0 && lessSprockets < limit
}

// expectedUsable returns the usable gears in their order.
func expectedUsable(x impl.Train, limit int64) [][]int64 {
	return slices.DeleteFunc(expectedOrder(x), func(gear []int64) bool { return isCrossedIn(x, limit, gear) })
}

// hasGear reports whether a list of gears has some indices.
func hasGear(gears [][]int64, gear []int64) bool {
	return slices.ContainsFunc(gears, func(other []int64) bool { return slices.Equal(gear, other) })
}

// movedBy returns the indices to which a move leads, also if there is no such gear.
func movedBy(gear []int64, move int64) []int64 {
	steps := [][]int64{{-1, 0}, {1, 0}, {0, -1}, {0, 1}}
	return []int64{gear[0] + steps[move][0], gear[1] + steps[move][1]}
}

// expectedDistances returns, for each usable gear, how many moves lead from there to a gear, or a
// great number if none do.
func expectedDistances(usable [][]int64, to []int64) map[[2]int64]int {
	distances := map[[2]int64]int{}
	for _, gear := range usable {
		distances[[2]int64(gear)] = 1000
	}
	distances[[2]int64(to)] = 0
	for range usable {
		for _, gear := range usable {
			for move := range int64(4) {
				if next, ok := distances[[2]int64(movedBy(gear, move))]; ok {
					distances[[2]int64(gear)] = min(distances[[2]int64(gear)], next+1)
				}
			}
		}
	}
	return distances
}

// expectedMoves returns the shortest way to the gear to which the distances are, the
// lexicographically smallest one of several, and the code.
func expectedMoves(distances map[[2]int64]int, from []int64) ([]int64, int64) {
	left := distances[[2]int64(from)]
	if left >= 1000 {
		return nil, impl.ErrNotFound
	}
	var moves []int64
	for ; left > 0; left-- {
		for move := range int64(4) {
			next := movedBy(from, move)
			if distance, ok := distances[[2]int64(next)]; ok && distance < left {
				from, moves = next, append(moves, move)
				break
			}
		}
	}
	return moves, impl.ErrNone
}

// forAllLimits calls f with trains of all sizes, all limits, and the usable gears.
func forAllLimits(call func(x impl.Train, limit int64, usable [][]int64)) {
	for _, x := range trainsOfAllSizes() {
		for limit := range int64(5) {
			call(x, limit, expectedUsable(x, limit))
		}
	}
}

// checkNoLimit calls f with trains that are not as described, and with limits that are not in
// their range. f returns the code, and whether all else that its function returns is zero.
func checkNoLimit(t *testing.T, name string, f func(x impl.Train, limit int64) (int64, bool)) {
	t.Helper()
	for _, limit := range []int64{0, 1, 4, -1, 5, math.MinInt64} {
		checkNoTrain(t, name, func(x impl.Train) (int64, bool) { return f(x, limit) })
	}
	for _, x := range rightTrains() {
		for _, limit := range wrongLimits() {
			if code, zero := f(x, limit); code != impl.ErrRange || !zero {
				t.Errorf("%s with %d, %d: %d, zero beside it: %v", name, x, limit, code, zero)
			}
		}
	}
}

// checkNoShift calls f with trains that are not as described, with indices of no gear, and with
// limits that are not in their range. f returns the code, and whether all else that its function
// returns is zero.
func checkNoShift(t *testing.T, name string, f func(x impl.Train, limit int64, front int64, rear int64) (int64, bool)) {
	t.Helper()
	// With a limit of 4 many gears are crossed, which comes later.
	for _, limit := range []int64{0, 4, -1, 5} {
		checkNoGear(t, name, func(x impl.Train, front int64, rear int64) (int64, bool) { return f(x, limit, front, rear) })
	}
	for _, gear := range [][]int64{{0, 0}, {-1, 0}, {0, 12}} {
		checkNoLimit(t, name, func(x impl.Train, limit int64) (int64, bool) { return f(x, limit, gear[0], gear[1]) })
	}
	checkNoLimit(t, name, func(x impl.Train, limit int64) (int64, bool) {
		return f(x, limit, int64(len(x.Front))-1, int64(len(x.Rear))-1)
	})
}

func TestConstantsOfChapter11(t *testing.T) {
	moves := []int64{impl.MoveRingDown, impl.MoveRingUp, impl.MoveSprocketDown, impl.MoveSprocketUp}
	if !slices.Equal(moves, []int64{0, 1, 2, 3}) {
		t.Errorf("the moves are %d", moves)
	}
}

func TestIsCrossed(t *testing.T) {
	cases := []struct {
		x                  impl.Train
		limit, front, rear int64
		want               bool
	}{
		{usualTrain(), 0, 0, 0, false},
		{usualTrain(), 0, 1, 1, false},
		{usualTrain(), 1, 0, 0, true},
		{usualTrain(), 1, 0, 1, false},
		{usualTrain(), 1, 1, 0, false},
		{usualTrain(), 1, 1, 1, true},
		// As many as there are sprockets, and more.
		{usualTrain(), 2, 0, 1, true},
		{usualTrain(), 2, 1, 0, true},
		{usualTrain(), 4, 0, 1, true},
		{usualTrain(), 4, 1, 0, true},
		// The last crossed gear and the first one that is not, on either side.
		{trainOfSize(2, 12), 4, 0, 3, true},
		{trainOfSize(2, 12), 4, 0, 4, false},
		{trainOfSize(2, 12), 4, 0, 11, false},
		{trainOfSize(2, 12), 4, 1, 8, true},
		{trainOfSize(2, 12), 4, 1, 7, false},
		{trainOfSize(2, 12), 4, 1, 0, false},
		{trainOfSize(2, 12), 3, 0, 2, true},
		{trainOfSize(2, 12), 3, 0, 3, false},
		{trainOfSize(2, 12), 3, 1, 9, true},
		{trainOfSize(2, 12), 3, 1, 8, false},
		// A chainring between two others crosses nothing.
		{trainOfSize(3, 12), 4, 1, 0, false},
		{trainOfSize(3, 12), 4, 1, 11, false},
		{trainOfSize(3, 12), 4, 0, 3, true},
		{trainOfSize(3, 12), 4, 2, 8, true},
		{trainOfSize(3, 12), 4, 2, 7, false},
		{trainOfSize(3, 1), 4, 1, 0, false},
		{trainOfSize(3, 1), 1, 0, 0, true},
		{trainOfSize(3, 1), 1, 2, 0, true},
		{trainOfSize(3, 1), 0, 2, 0, false},
		// Nor does the only one.
		{trainOfSize(1, 12), 4, 0, 0, false},
		{trainOfSize(1, 12), 4, 0, 11, false},
		{trainOfSize(1, 1), 4, 0, 0, false},
		{trainOfSize(1, 3), 3, 0, 1, false},
	}
	for _, c := range cases {
		if got, code := impl.IsCrossed(c.x, c.limit, c.front, c.rear); code != impl.ErrNone || got != c.want {
			t.Errorf("IsCrossed(%d, %d, %d, %d) = %v, %d", c.x, c.limit, c.front, c.rear, got, code)
		}
	}
	checkNoShift(t, "IsCrossed", func(x impl.Train, limit int64, front int64, rear int64) (int64, bool) {
		got, code := impl.IsCrossed(x, limit, front, rear)
		return code, !got
	})
}

func TestUsableGears(t *testing.T) {
	cases := []struct {
		x     impl.Train
		limit int64
		want  [][]int64
	}{
		{usualTrain(), 0, [][]int64{{0, 1}, {0, 0}, {1, 1}, {1, 0}}},
		{usualTrain(), 1, [][]int64{{0, 1}, {1, 0}}},
		{usualTrain(), 2, nil},
		{usualTrain(), 3, nil},
		{usualTrain(), 4, nil},
		{trainOfSize(1, 2), 4, [][]int64{{0, 1}, {0, 0}}},
		{trainOfSize(2, 1), 0, [][]int64{{0, 0}, {1, 0}}},
		{trainOfSize(2, 1), 1, nil},
		{trainOfSize(3, 1), 1, [][]int64{{1, 0}}},
		{trainOfSize(3, 2), 1, [][]int64{{0, 1}, {1, 1}, {1, 0}, {2, 0}}},
		{trainOfSize(3, 2), 2, [][]int64{{1, 1}, {1, 0}}},
		// The chainrings take turns: ratios of 20/52, 21/52, 60/52, 20/9, 21/9 and 60/9.
		{train([]int64{20, 21, 60}, []int64{9, 52}, 2000), 0, [][]int64{{0, 1}, {1, 1}, {2, 1}, {0, 0}, {1, 0}, {2, 0}}},
		{train([]int64{20, 21, 60}, []int64{9, 52}, 2000), 1, [][]int64{{0, 1}, {1, 1}, {1, 0}, {2, 0}}},
		// Equal ratios: 20/10, 40/20 and 60/30; the first and the last one are crossed.
		{train([]int64{20, 40, 60}, []int64{10, 20, 30}, 2000), 1, [][]int64{{0, 2}, {0, 1}, {1, 2}, {1, 1}, {2, 1}, {1, 0}, {2, 0}}},
	}
	for _, c := range cases {
		if usable, code := impl.UsableGears(c.x, c.limit); code != impl.ErrNone || !sameRows(usable, c.want) {
			t.Errorf("UsableGears(%d, %d) = %d, %d, not %d", c.x, c.limit, usable, code, c.want)
		}
	}
	checkNoLimit(t, "UsableGears", func(x impl.Train, limit int64) (int64, bool) {
		usable, code := impl.UsableGears(x, limit)
		return code, len(usable) == 0
	})
}

// TestGearsOfAllTrains compares which gears are crossed, and which are usable in which order.
func TestGearsOfAllTrains(t *testing.T) {
	for _, x := range append(rightTrains(), trainsOfAllSizes()...) {
		for limit := range int64(5) {
			for _, gear := range expectedOrder(x) {
				if got, code := impl.IsCrossed(x, limit, gear[0], gear[1]); code != impl.ErrNone || got != isCrossedIn(x, limit, gear) {
					t.Errorf("IsCrossed(%d, %d, %d) = %v, %d", x, limit, gear, got, code)
				}
			}
			want := expectedUsable(x, limit)
			if usable, code := impl.UsableGears(x, limit); code != impl.ErrNone || !sameRows(usable, want) {
				t.Errorf("UsableGears(%d, %d) = %d, %d, not %d", x, limit, usable, code, want)
			}
		}
	}
}

func TestShiftGear(t *testing.T) {
	cases := []struct {
		x                        impl.Train
		limit, front, rear, move int64
		want                     []int64
		code                     int64
	}{
		{usualTrain(), 0, 0, 1, impl.MoveRingUp, []int64{1, 1}, impl.ErrNone},
		{usualTrain(), 0, 1, 1, impl.MoveRingDown, []int64{0, 1}, impl.ErrNone},
		{usualTrain(), 0, 0, 1, impl.MoveSprocketDown, []int64{0, 0}, impl.ErrNone},
		{usualTrain(), 0, 0, 0, impl.MoveSprocketUp, []int64{0, 1}, impl.ErrNone},
		{trainOfSize(3, 12), 4, 1, 6, impl.MoveRingDown, []int64{0, 6}, impl.ErrNone},
		{trainOfSize(3, 12), 4, 1, 6, impl.MoveRingUp, []int64{2, 6}, impl.ErrNone},
		{trainOfSize(3, 12), 4, 1, 6, impl.MoveSprocketDown, []int64{1, 5}, impl.ErrNone},
		{trainOfSize(3, 12), 4, 1, 6, impl.MoveSprocketUp, []int64{1, 7}, impl.ErrNone},
		// It leads to no gear.
		{usualTrain(), 0, 0, 0, impl.MoveRingDown, []int64{0, 0}, impl.ErrState},
		{usualTrain(), 0, 1, 0, impl.MoveRingUp, []int64{0, 0}, impl.ErrState},
		{usualTrain(), 0, 1, 0, impl.MoveSprocketDown, []int64{0, 0}, impl.ErrState},
		{usualTrain(), 0, 1, 1, impl.MoveSprocketUp, []int64{0, 0}, impl.ErrState},
		{trainOfSize(1, 1), 4, 0, 0, impl.MoveRingDown, []int64{0, 0}, impl.ErrState},
		{trainOfSize(1, 1), 4, 0, 0, impl.MoveRingUp, []int64{0, 0}, impl.ErrState},
		{trainOfSize(1, 1), 4, 0, 0, impl.MoveSprocketDown, []int64{0, 0}, impl.ErrState},
		{trainOfSize(1, 1), 4, 0, 0, impl.MoveSprocketUp, []int64{0, 0}, impl.ErrState},
		// It leads to a crossed gear.
		{usualTrain(), 1, 0, 1, impl.MoveRingUp, []int64{0, 0}, impl.ErrState},
		{usualTrain(), 1, 0, 1, impl.MoveSprocketDown, []int64{0, 0}, impl.ErrState},
		{usualTrain(), 1, 1, 0, impl.MoveRingDown, []int64{0, 0}, impl.ErrState},
		{usualTrain(), 1, 1, 0, impl.MoveSprocketUp, []int64{0, 0}, impl.ErrState},
		{trainOfSize(3, 12), 4, 1, 8, impl.MoveRingUp, []int64{0, 0}, impl.ErrState},
		{trainOfSize(3, 12), 4, 1, 7, impl.MoveRingUp, []int64{2, 7}, impl.ErrNone},
		{trainOfSize(3, 12), 4, 1, 3, impl.MoveRingDown, []int64{0, 0}, impl.ErrState},
		{trainOfSize(3, 12), 4, 1, 4, impl.MoveRingDown, []int64{0, 4}, impl.ErrNone},
		// The gear itself is crossed, although a usable one is beside it.
		{usualTrain(), 1, 0, 0, impl.MoveRingUp, []int64{0, 0}, impl.ErrState},
		{usualTrain(), 1, 0, 0, impl.MoveSprocketUp, []int64{0, 0}, impl.ErrState},
		{usualTrain(), 1, 1, 1, impl.MoveSprocketDown, []int64{0, 0}, impl.ErrState},
		{usualTrain(), 2, 0, 0, impl.MoveRingUp, []int64{0, 0}, impl.ErrState},
		{trainOfSize(3, 1), 1, 0, 0, impl.MoveRingUp, []int64{0, 0}, impl.ErrState},
		// The only chainring crosses nothing.
		{trainOfSize(1, 2), 4, 0, 0, impl.MoveSprocketUp, []int64{0, 1}, impl.ErrNone},
	}
	for _, c := range cases {
		if front, rear, code := impl.ShiftGear(c.x, c.limit, c.front, c.rear, c.move); code != c.code || front != c.want[0] || rear != c.want[1] {
			t.Errorf("ShiftGear(%d, %d, %d, %d, %d) = %d, %d, %d, not %d, %d", c.x, c.limit, c.front, c.rear, c.move, front, rear, code, c.want, c.code)
		}
	}
}

func TestAllShifts(t *testing.T) {
	forAllLimits(func(x impl.Train, limit int64, usable [][]int64) {
		for _, gear := range expectedOrder(x) {
			for move := range int64(4) {
				want, wantCode := movedBy(gear, move), int64(impl.ErrNone)
				if !hasGear(usable, gear) || !hasGear(usable, want) {
					want, wantCode = []int64{0, 0}, impl.ErrState
				}
				if front, rear, code := impl.ShiftGear(x, limit, gear[0], gear[1], move); code != wantCode || front != want[0] || rear != want[1] {
					t.Errorf("ShiftGear(%d, %d, %d, %d) = %d, %d, %d, not %d, %d", x, limit, gear, move, front, rear, code, want, wantCode)
				}
			}
		}
	})
}

func TestShiftGearErrors(t *testing.T) {
	for _, move := range []int64{impl.MoveRingDown, impl.MoveRingUp, impl.MoveSprocketDown, impl.MoveSprocketUp, -1, 4} {
		checkNoShift(t, "ShiftGear", func(x impl.Train, limit int64, front int64, rear int64) (int64, bool) {
			front, rear, code := impl.ShiftGear(x, limit, front, rear, move)
			return code, front == 0 && rear == 0
		})
	}
	// With greater limits gears are crossed, which comes later.
	for _, x := range rightTrains() {
		for limit := range int64(5) {
			for _, gear := range expectedOrder(x) {
				for _, move := range wrongMoves() {
					if front, rear, code := impl.ShiftGear(x, limit, gear[0], gear[1], move); code != impl.ErrRange || front != 0 || rear != 0 {
						t.Errorf("ShiftGear(%d, %d, %d, %d) = %d, %d, %d", x, limit, gear, move, front, rear, code)
					}
				}
			}
		}
	}
}

// waysByLimit has ways of which several are as short, and ways round crossed gears.
func waysByLimit() []struct {
	x     impl.Train
	limit int64
	way   way
} {
	const d, u, l, r = impl.MoveRingDown, impl.MoveRingUp, impl.MoveSprocketDown, impl.MoveSprocketUp
	return []struct {
		x     impl.Train
		limit int64
		way   way
	}{
		{usualTrain(), 0, way{[]int64{0, 1}, []int64{1, 0}, []int64{u, l}}},
		{usualTrain(), 0, way{[]int64{1, 0}, []int64{0, 1}, []int64{d, r}}},
		{usualTrain(), 0, way{[]int64{0, 0}, []int64{1, 1}, []int64{u, r}}},
		{usualTrain(), 0, way{[]int64{1, 1}, []int64{0, 0}, []int64{d, l}}},
		{usualTrain(), 0, way{[]int64{0, 0}, []int64{1, 0}, []int64{u}}},
		{usualTrain(), 0, way{[]int64{1, 0}, []int64{1, 1}, []int64{r}}},
		// From a gear to itself.
		{usualTrain(), 0, way{[]int64{1, 1}, []int64{1, 1}, nil}},
		{usualTrain(), 1, way{[]int64{0, 1}, []int64{0, 1}, nil}},
		{trainOfSize(3, 1), 4, way{[]int64{1, 0}, []int64{1, 0}, nil}},
		{trainOfSize(1, 1), 4, way{[]int64{0, 0}, []int64{0, 0}, nil}},
		// The shortest way is round gears that are crossed.
		{trainOfSize(2, 3), 0, way{[]int64{0, 2}, []int64{1, 0}, []int64{u, l, l}}},
		{trainOfSize(2, 3), 1, way{[]int64{0, 2}, []int64{1, 0}, []int64{l, u, l}}},
		{trainOfSize(2, 3), 0, way{[]int64{1, 0}, []int64{0, 2}, []int64{d, r, r}}},
		{trainOfSize(2, 3), 1, way{[]int64{1, 0}, []int64{0, 2}, []int64{r, d, r}}},
		{trainOfSize(2, 5), 2, way{[]int64{0, 4}, []int64{1, 0}, []int64{l, l, u, l, l}}},
		{trainOfSize(2, 5), 1, way{[]int64{0, 4}, []int64{1, 0}, []int64{l, u, l, l, l}}},
		{trainOfSize(3, 2), 0, way{[]int64{0, 1}, []int64{2, 0}, []int64{u, u, l}}},
		{trainOfSize(3, 2), 1, way{[]int64{0, 1}, []int64{2, 0}, []int64{u, l, u}}},
		{trainOfSize(3, 2), 1, way{[]int64{2, 0}, []int64{0, 1}, []int64{d, r, d}}},
		{trainOfSize(3, 2), 2, way{[]int64{1, 0}, []int64{1, 1}, []int64{r}}},
		// The longest ways of all.
		{greatestTrain(), 0, way{[]int64{0, 11}, []int64{2, 0}, []int64{u, u, l, l, l, l, l, l, l, l, l, l, l}}},
		{greatestTrain(), 4, way{[]int64{0, 11}, []int64{2, 0}, []int64{u, l, l, l, l, u, l, l, l, l, l, l, l}}},
		{greatestTrain(), 4, way{[]int64{2, 0}, []int64{0, 11}, []int64{d, r, r, r, r, d, r, r, r, r, r, r, r}}},
		{greatestTrain(), 0, way{[]int64{0, 0}, []int64{2, 11}, []int64{u, u, r, r, r, r, r, r, r, r, r, r, r}}},
		// The only chainring crosses nothing.
		{trainOfSize(1, 3), 4, way{[]int64{0, 0}, []int64{0, 2}, []int64{r, r}}},
		{trainOfSize(1, 3), 4, way{[]int64{0, 2}, []int64{0, 0}, []int64{l, l}}},
	}
}

func TestShortestWay(t *testing.T) {
	for _, c := range waysByLimit() {
		moves, code := impl.ShortestWay(c.x, c.limit, c.way.from[0], c.way.from[1], c.way.to[0], c.way.to[1])
		if code != impl.ErrNone || !slices.Equal(moves, c.way.moves) {
			t.Errorf("ShortestWay(%d, %d, %d, %d) = %d, %d, not %d", c.x, c.limit, c.way.from, c.way.to, moves, code, c.way.moves)
		}
	}
}

// TestShortestWaysOfAllTrains asks for the ways between all gears, crossed ones among them.
func TestShortestWaysOfAllTrains(t *testing.T) {
	codes := map[int64]int{}
	forAllLimits(func(x impl.Train, limit int64, usable [][]int64) {
		for _, to := range expectedOrder(x) {
			distances := expectedDistances(usable, to)
			for _, from := range expectedOrder(x) {
				var want []int64
				wantCode := int64(impl.ErrState)
				if hasGear(usable, from) && hasGear(usable, to) {
					want, wantCode = expectedMoves(distances, from)
				}
				codes[wantCode]++
				moves, code := impl.ShortestWay(x, limit, from[0], from[1], to[0], to[1])
				if code != wantCode || !slices.Equal(moves, want) {
					t.Fatalf("ShortestWay(%d, %d, %d, %d) = %d, %d, not %d, %d", x, limit, from, to, moves, code, want, wantCode)
				}
			}
		}
	})
	if codes[impl.ErrNone] < 10000 || codes[impl.ErrState] < 10000 || codes[impl.ErrNotFound] < 100 {
		t.Errorf("too few ways, or too few that are none: %d", codes)
	}
}

// TestShortestWaysOfSmallTrains tries all lists of moves, by rising lengths and in their order, and
// compares with the first ones that lead to each gear.
func TestShortestWaysOfSmallTrains(t *testing.T) {
	for _, x := range []impl.Train{trainOfSize(1, 4), trainOfSize(2, 1), trainOfSize(2, 3), trainOfSize(2, 4), trainOfSize(3, 1), trainOfSize(3, 2), trainOfSize(3, 3)} {
		for limit := range int64(5) {
			usable := expectedUsable(x, limit)
			for _, from := range usable {
				first := map[[2]int64][]int64{}
				var try func(gear []int64, moves []int64, left int)
				try = func(gear []int64, moves []int64, left int) {
					if !hasGear(usable, gear) {
						return
					}
					if _, ok := first[[2]int64(gear)]; left == 0 && !ok {
						first[[2]int64(gear)] = slices.Clone(moves)
					}
					for move := range int64(4) {
						if left > 0 {
							try(movedBy(gear, move), append(moves, move), left-1)
						}
					}
				}
				for length := range 6 {
					try(from, nil, length)
				}
				for _, to := range usable {
					want, ok := first[[2]int64(to)]
					moves, code := impl.ShortestWay(x, limit, from[0], from[1], to[0], to[1])
					if (code == impl.ErrNone) != ok || !slices.Equal(moves, want) {
						t.Fatalf("ShortestWay(%d, %d, %d, %d) = %d, %d, not %d", x, limit, from, to, moves, code, want)
					}
				}
			}
		}
	}
}

// TestWaysLeadWhereTheyShould shifts by each way, which ShiftGear lets no crossed gear be on, and
// asks for the way back.
func TestWaysLeadWhereTheyShould(t *testing.T) {
	forAllLimits(func(x impl.Train, limit int64, usable [][]int64) {
		if len(x.Rear) > 9 && len(x.Rear) < 12 {
			return
		}
		for _, from := range usable {
			for _, to := range usable {
				moves, code := impl.ShortestWay(x, limit, from[0], from[1], to[0], to[1])
				back, backCode := impl.ShortestWay(x, limit, to[0], to[1], from[0], from[1])
				if code != backCode || len(moves) != len(back) {
					t.Fatalf("ShortestWay(%d, %d, %d, %d) = %d, %d, back %d, %d", x, limit, from, to, moves, code, back, backCode)
				}
				if code != impl.ErrNone {
					continue
				}
				front, rear := from[0], from[1]
				for _, move := range moves {
					if front, rear, code = impl.ShiftGear(x, limit, front, rear, move); code != impl.ErrNone {
						t.Fatalf("ShortestWay(%d, %d, %d, %d) = %d leads nowhere: %d", x, limit, from, to, moves, code)
					}
				}
				if front != to[0] || rear != to[1] {
					t.Fatalf("ShortestWay(%d, %d, %d, %d) = %d leads to %d, %d", x, limit, from, to, moves, front, rear)
				}
			}
		}
	})
}

func TestShortestWayErrors(t *testing.T) {
	cases := []struct {
		x        impl.Train
		limit    int64
		from, to []int64
		code     int64
	}{
		// There is no way between usable gears.
		{usualTrain(), 1, []int64{0, 1}, []int64{1, 0}, impl.ErrNotFound},
		{usualTrain(), 1, []int64{1, 0}, []int64{0, 1}, impl.ErrNotFound},
		{trainOfSize(2, 4), 2, []int64{0, 2}, []int64{1, 1}, impl.ErrNotFound},
		{trainOfSize(2, 4), 2, []int64{0, 3}, []int64{1, 0}, impl.ErrNotFound},
		{trainOfSize(2, 3), 2, []int64{0, 2}, []int64{1, 0}, impl.ErrNotFound},
		{trainOfSize(2, 8), 4, []int64{1, 0}, []int64{0, 7}, impl.ErrNotFound},
		{trainOfSize(2, 5), 4, []int64{1, 0}, []int64{0, 4}, impl.ErrNotFound},
		// The start, the end or both are crossed.
		{usualTrain(), 1, []int64{0, 0}, []int64{0, 1}, impl.ErrState},
		{usualTrain(), 1, []int64{0, 1}, []int64{0, 0}, impl.ErrState},
		{usualTrain(), 1, []int64{0, 1}, []int64{1, 1}, impl.ErrState},
		{usualTrain(), 1, []int64{0, 0}, []int64{0, 0}, impl.ErrState},
		{usualTrain(), 1, []int64{0, 0}, []int64{1, 1}, impl.ErrState},
		{usualTrain(), 2, []int64{0, 1}, []int64{0, 1}, impl.ErrState},
		{usualTrain(), 4, []int64{0, 1}, []int64{1, 0}, impl.ErrState},
		// A crossed gear beside a wrong number.
		{usualTrain(), 1, []int64{0, 0}, []int64{0, 2}, impl.ErrRange},
		{usualTrain(), 1, []int64{0, 0}, []int64{-1, 0}, impl.ErrRange},
		{usualTrain(), 1, []int64{2, 0}, []int64{0, 0}, impl.ErrRange},
		{usualTrain(), 5, []int64{0, 0}, []int64{1, 1}, impl.ErrRange},
		{usualTrain(), -1, []int64{0, 0}, []int64{0, 0}, impl.ErrRange},
		{train([]int64{48, 24}, []int64{12, 24}, 2000), 5, []int64{2, 0}, []int64{0, -1}, impl.ErrInvalid},
	}
	for _, c := range cases {
		if moves, code := impl.ShortestWay(c.x, c.limit, c.from[0], c.from[1], c.to[0], c.to[1]); code != c.code || len(moves) != 0 {
			t.Errorf("ShortestWay(%d, %d, %d, %d) = %d, %d, not %d", c.x, c.limit, c.from, c.to, moves, code, c.code)
		}
	}
	for _, other := range [][]int64{{0, 0}, {-1, 0}, {0, 12}, {3, 0}} {
		checkNoShift(t, "ShortestWay from", func(x impl.Train, limit int64, front int64, rear int64) (int64, bool) {
			moves, code := impl.ShortestWay(x, limit, front, rear, other[0], other[1])
			return code, len(moves) == 0
		})
		checkNoShift(t, "ShortestWay to", func(x impl.Train, limit int64, front int64, rear int64) (int64, bool) {
			moves, code := impl.ShortestWay(x, limit, other[0], other[1], front, rear)
			return code, len(moves) == 0
		})
	}
}

func TestReachableGears(t *testing.T) {
	cases := []struct {
		x                  impl.Train
		limit, front, rear int64
		want, code         int64
	}{
		{usualTrain(), 0, 0, 0, 4, impl.ErrNone},
		{usualTrain(), 0, 1, 1, 4, impl.ErrNone},
		// Not all usable gears.
		{usualTrain(), 1, 0, 1, 1, impl.ErrNone},
		{usualTrain(), 1, 1, 0, 1, impl.ErrNone},
		{trainOfSize(2, 4), 2, 0, 2, 2, impl.ErrNone},
		{trainOfSize(2, 4), 2, 1, 0, 2, impl.ErrNone},
		{trainOfSize(2, 7), 4, 0, 6, 3, impl.ErrNone},
		{trainOfSize(2, 8), 4, 1, 3, 4, impl.ErrNone},
		// All of them.
		{trainOfSize(2, 3), 1, 0, 2, 4, impl.ErrNone},
		{trainOfSize(2, 9), 4, 0, 8, 10, impl.ErrNone},
		{trainOfSize(2, 12), 4, 1, 0, 16, impl.ErrNone},
		{greatestTrain(), 0, 2, 11, 36, impl.ErrNone},
		{greatestTrain(), 1, 2, 10, 34, impl.ErrNone},
		{greatestTrain(), 4, 0, 4, 28, impl.ErrNone},
		{trainOfSize(3, 4), 4, 1, 2, 4, impl.ErrNone},
		{trainOfSize(3, 1), 4, 1, 0, 1, impl.ErrNone},
		{trainOfSize(1, 12), 4, 0, 0, 12, impl.ErrNone},
		{trainOfSize(1, 1), 4, 0, 0, 1, impl.ErrNone},
		// The gear itself is crossed.
		{usualTrain(), 1, 0, 0, 0, impl.ErrState},
		{usualTrain(), 1, 1, 1, 0, impl.ErrState},
		{usualTrain(), 2, 0, 1, 0, impl.ErrState},
		{greatestTrain(), 4, 0, 3, 0, impl.ErrState},
		{greatestTrain(), 4, 2, 8, 0, impl.ErrState},
		{trainOfSize(2, 1), 1, 0, 0, 0, impl.ErrState},
	}
	for _, c := range cases {
		if reachable, code := impl.ReachableGears(c.x, c.limit, c.front, c.rear); code != c.code || reachable != c.want {
			t.Errorf("ReachableGears(%d, %d, %d, %d) = %d, %d, not %d, %d", c.x, c.limit, c.front, c.rear, reachable, code, c.want, c.code)
		}
	}
	checkNoShift(t, "ReachableGears", func(x impl.Train, limit int64, front int64, rear int64) (int64, bool) {
		reachable, code := impl.ReachableGears(x, limit, front, rear)
		return code, reachable == 0
	})
}

func TestReachableGearsOfAllTrains(t *testing.T) {
	forAllLimits(func(x impl.Train, limit int64, usable [][]int64) {
		for _, gear := range expectedOrder(x) {
			want, wantCode := int64(0), int64(impl.ErrState)
			if hasGear(usable, gear) {
				wantCode = impl.ErrNone
				for _, distance := range expectedDistances(usable, gear) {
					if distance < 1000 {
						want++
					}
				}
			}
			if reachable, code := impl.ReachableGears(x, limit, gear[0], gear[1]); code != wantCode || reachable != want {
				t.Errorf("ReachableGears(%d, %d, %d) = %d, %d, not %d, %d", x, limit, gear, reachable, code, want, wantCode)
			}
		}
	})
}

func TestRingShifts(t *testing.T) {
	turns := train([]int64{20, 21, 60}, []int64{9, 52}, 2000)
	cases := []struct {
		x           impl.Train
		limit, want int64
	}{
		{usualTrain(), 0, 1},
		{usualTrain(), 1, 1},
		// No usable gear.
		{usualTrain(), 2, 0},
		{usualTrain(), 4, 0},
		{trainOfSize(2, 1), 1, 0},
		// One usable gear.
		{trainOfSize(1, 1), 0, 0},
		{trainOfSize(1, 1), 4, 0},
		{trainOfSize(3, 1), 1, 0},
		{trainOfSize(1, 12), 4, 0},
		{trainOfSize(3, 1), 0, 2},
		// Chainrings 0, 1, 2, 0, 1 and 2, and then 0, 1, 1 and 2.
		{turns, 0, 6},
		{turns, 1, 2},
		{turns, 2, 0},
		// Chainrings 0, 0, 1, 2, 1 and 2.
		{train([]int64{20, 40, 60}, []int64{10, 20}, 2000), 0, 4},
		// Chainrings 0 and 1 take turns, 24 gears.
		{train([]int64{59, 60}, []int64{10, 12, 14, 16, 18, 20, 22, 24, 26, 28, 30, 32}, 2000), 0, 23},
	}
	for _, c := range cases {
		if shifts, code := impl.RingShifts(c.x, c.limit); code != impl.ErrNone || shifts != c.want {
			t.Errorf("RingShifts(%d, %d) = %d, %d, not %d", c.x, c.limit, shifts, code, c.want)
		}
	}
	checkNoLimit(t, "RingShifts", func(x impl.Train, limit int64) (int64, bool) {
		shifts, code := impl.RingShifts(x, limit)
		return code, shifts == 0
	})
}

func TestRingShiftsOfTrains(t *testing.T) {
	for _, x := range append(rightTrains(), trainsOfAllSizes()...) {
		for limit := range int64(5) {
			want := int64(0)
			usable := expectedUsable(x, limit)
			for i := range usable {
				if i > 0 {
					want += max(usable[i][0]-usable[i-1][0], usable[i-1][0]-usable[i][0])
				}
			}
			if shifts, code := impl.RingShifts(x, limit); code != impl.ErrNone || shifts != want {
				t.Errorf("RingShifts(%d, %d) = %d, %d, not %d", x, limit, shifts, code, want)
			}
		}
	}
}

func TestMovesText(t *testing.T) {
	cases := []struct {
		moves []int64
		text  string
	}{
		{nil, "-"},
		{[]int64{}, "-"},
		{[]int64{impl.MoveRingDown}, "d"},
		{[]int64{impl.MoveRingUp}, "u"},
		{[]int64{impl.MoveSprocketDown}, "l"},
		{[]int64{impl.MoveSprocketUp}, "r"},
		{[]int64{0, 1, 2, 3}, "dulr"},
		{[]int64{3, 2, 1, 0}, "rlud"},
		{[]int64{2, 2, 1, 2}, "llul"},
		{repeated(60, int64(3)), strings.Repeat("r", 60)},
		{repeated(60, int64(0)), strings.Repeat("d", 60)},
	}
	for _, c := range cases {
		if text, code := impl.MovesText(c.moves); code != impl.ErrNone || text != c.text {
			t.Errorf("MovesText(%d) = %q, %d, not %q", c.moves, text, code, c.text)
		}
		if moves, code := impl.ReadMoves(c.text); code != impl.ErrNone || !slices.Equal(moves, c.moves) {
			t.Errorf("ReadMoves(%q) = %d, %d, not %d", c.text, moves, code, c.moves)
		}
	}
}

func TestMovesTextErrors(t *testing.T) {
	var wrong [][]int64
	for _, move := range wrongMoves() {
		wrong = append(wrong, []int64{move}, []int64{0, move}, []int64{move, 3}, []int64{1, move, 2}, append(repeated(59, int64(1)), move), append(repeated(60, int64(1)), move))
	}
	for n := 61; n < 130; n++ {
		wrong = append(wrong, repeated(n, int64(0)), repeated(n, int64(3)), repeated(n, int64(4)))
	}
	wrong = append(wrong, repeated(100000, int64(2)))
	for _, moves := range wrong {
		if text, code := impl.MovesText(moves); code != impl.ErrRange || text != "" {
			t.Errorf("MovesText(%d) = %q, %d", moves, text, code)
		}
	}
}

func TestMovesAreRecovered(t *testing.T) {
	for n := range 61 {
		for seed := range uint64(20) {
			list := someTensions(n, 0, 3, seed)
			text, code := impl.MovesText(list)
			if code != impl.ErrNone || len(text) != max(n, 1) {
				t.Fatalf("MovesText(%d) = %q, %d", list, text, code)
			}
			if moves, code := impl.ReadMoves(text); code != impl.ErrNone || !slices.Equal(moves, list) {
				t.Fatalf("ReadMoves(%q) = %d, %d, not %d", text, moves, code, list)
			}
		}
	}
	// All ways are recovered too.
	forAllLimits(func(x impl.Train, limit int64, usable [][]int64) {
		for _, gear := range usable {
			moves, _ := impl.ShortestWay(x, limit, usable[0][0], usable[0][1], gear[0], gear[1])
			text, code := impl.MovesText(moves)
			if again, second := impl.ReadMoves(text); code != impl.ErrNone || second != impl.ErrNone || !slices.Equal(again, moves) {
				t.Fatalf("ReadMoves(%q) = %d, %d, not %d", text, again, second, moves)
			}
		}
	})
}

func TestReadMovesReadsNothingElse(t *testing.T) {
	form := regexp.MustCompile(`^(-|[dulr]{1,60})$`)
	check := func(s string) {
		t.Helper()
		moves, code := impl.ReadMoves(s)
		if !form.MatchString(s) {
			if code != impl.ErrSyntax || len(moves) != 0 {
				t.Errorf("ReadMoves(%q) = %d, %d", s, moves, code)
			}
			return
		}
		if text, second := impl.MovesText(moves); code != impl.ErrNone || second != impl.ErrNone || text != s {
			t.Errorf("ReadMoves(%q) = %d, %d, whose text is %q, %d", s, moves, code, text, second)
		}
	}
	for _, s := range textsOver("dulr-DUx ", 5) {
		check(s)
	}
	for b := range 256 {
		s := string([]byte{byte(b)})
		check(s)
		check("d" + s)
		check(s + "r")
		check("ul" + s + "lu")
	}
	for n := range 130 {
		check(strings.Repeat("u", n))
		check(strings.Repeat("r", n) + "-")
		check(strings.Repeat("l", n) + "x")
		check(strings.Repeat("-", n))
	}
	for _, s := range []string{"é", "dé", "d\n", "-\n", "\n-", "d,u", "0", "0,1", "D", "L", "dU", "\x00", "d\x00", strings.Repeat("d", 100000)} {
		check(s)
	}
}

func TestArgumentsOfChapter11AreLeftAlone(t *testing.T) {
	// What is behind each list stands in its spare capacity.
	front, rear, moves := []int64{20, 40, 60, 70, 80}, []int64{9, 20, 40, 52, 60, 70}, []int64{1, 2, 2, 4, 5}
	frontBefore, rearBefore, movesBefore := slices.Clone(front), slices.Clone(rear), slices.Clone(moves)
	check := func(what string) {
		t.Helper()
		if !slices.Equal(front, frontBefore) || !slices.Equal(rear, rearBefore) || !slices.Equal(moves, movesBefore) {
			t.Fatalf("%s: an argument, or what is behind it, was changed to %d, %d, %d", what, front, rear, moves)
		}
	}
	callAll := func(x impl.Train, limit int64, to int64, moves []int64) [][]int64 {
		rows, _ := impl.UsableGears(x, limit)
		toTheEnd, _ := impl.ShortestWay(x, limit, 0, 3, 2, to)
		read, _ := impl.ReadMoves("ullu")
		impl.IsCrossed(x, limit, 0, 0)
		impl.ShiftGear(x, limit, 0, 3, 1)
		impl.ReachableGears(x, limit, 0, 3)
		impl.RingShifts(x, limit)
		impl.MovesText(moves)
		return append(rows, toTheEnd, read)
	}
	x := train(front[:3], rear[:4], 2100)
	results := callAll(x, 1, 0, moves[:3])
	check("results")
	// Ten usable gears, a way of five moves, and four moves that were read.
	if len(results) != 12 || len(results[10]) != 5 || len(results[11]) != 4 {
		t.Fatalf("results: %d", results)
	}
	callAll(x, 1, 3, moves[:4])
	callAll(x, 5, 0, moves[:5])
	callAll(train(front[:5], rear[:4], 2100), 1, 0, moves[:3])
	callAll(train(front[:3], rear[:6], 2100), 1, 0, moves[:3])
	check("errors")
	overwrite(results, 7000)
	check("changed results")
	for _, row := range callAll(x, 1, 0, moves[:3]) {
		if slices.Contains(row, 7000) {
			t.Errorf("two results share memory: %d", row)
		}
	}
}

// TestRowsOfChapter11ShareNoMemory changes the rows of a result one by one.
func TestRowsOfChapter11ShareNoMemory(t *testing.T) {
	forAllLimits(func(x impl.Train, limit int64, usable [][]int64) {
		rows, _ := impl.UsableGears(x, limit)
		for i := range rows {
			overwrite(rows[i:i+1:i+1], int64(7000+i))
		}
		for i, row := range rows {
			if row[0] != int64(7000+i) || row[1] != int64(7000+i) {
				t.Fatalf("UsableGears(%d, %d): row %d shares memory with another one", x, limit, i)
			}
		}
	})
}
