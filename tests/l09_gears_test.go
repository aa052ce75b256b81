package tests

import (
	"cmp"
	"math"
	"math/big"
	"slices"
	"testing"

	"loop.example/g01050/impl"
)

func train(front []int64, rear []int64, round int64) impl.Train {
	return impl.Train{Front: front, Rear: rear, Round: round}
}

func cloneOfTrain(x impl.Train) impl.Train {
	return train(slices.Clone(x.Front), slices.Clone(x.Rear), x.Round)
}

func sameTrain(a impl.Train, b impl.Train) bool {
	return slices.Equal(a.Front, b.Front) && slices.Equal(a.Rear, b.Rear) && a.Round == b.Round
}

func sameRows(a [][]int64, b [][]int64) bool {
	return slices.EqualFunc(a, b, slices.Equal[[]int64])
}

// someRising returns n strictly increasing numbers in low..high, the same ones for the same
// arguments.
func someRising(n int, low int64, high int64, seed uint64) []int64 {
	list := slices.Clone(shuffled(high-low+1, seed)[:n])
	for i := range list {
		list[i] += low
	}
	slices.Sort(list)
	return list
}

// usualTrain has two gears with the same ratio, and steps between the others.
func usualTrain() impl.Train {
	return train([]int64{24, 48}, []int64{12, 24}, 2000)
}

// trainOfOne has a single gear.
func trainOfOne(chainring int64, sprocket int64, round int64) impl.Train {
	return train([]int64{chainring}, []int64{sprocket}, round)
}

func greatestTrain() impl.Train {
	return train([]int64{30, 39, 52}, []int64{11, 12, 13, 14, 15, 17, 19, 21, 24, 27, 30, 34}, 2105)
}

// trainOfThrees has three gears with a ratio of 2, and more pairs with equal ratios.
func trainOfThrees() impl.Train {
	return train([]int64{20, 40, 60}, []int64{10, 20, 30, 40}, 2096)
}

func rightTrains() []impl.Train {
	all := []impl.Train{
		usualTrain(), greatestTrain(), trainOfThrees(),
		trainOfOne(20, 9, 1000), trainOfOne(60, 52, 2500), trainOfOne(60, 9, 2500), trainOfOne(20, 52, 1000), trainOfOne(32, 16, 1234),
		train([]int64{20, 60}, []int64{9, 52}, 2500),
		train([]int64{58, 59, 60}, []int64{41, 42, 43, 44, 45, 46, 47, 48, 49, 50, 51, 52}, 1000),
		train([]int64{20, 21, 22}, []int64{9, 10, 11, 12, 13, 14, 15, 16, 17, 18, 19, 20}, 2500),
		train([]int64{24, 36, 48}, []int64{12, 18, 24, 36}, 1999),
		train([]int64{52, 53}, []int64{51, 52}, 1020),
	}
	for fronts := 1; fronts <= 3; fronts++ {
		for rears := 1; rears <= 12; rears++ {
			for seed := range uint64(2) {
				round := someTensions(1, 1000, 2500, seed+uint64(rears))[0]
				all = append(all, train(someRising(fronts, 20, 60, seed+uint64(rears)), someRising(rears, 9, 52, seed+uint64(fronts)), round))
			}
		}
	}
	return all
}

func wrongTrains() []impl.Train {
	front, rear := []int64{24, 48}, []int64{12, 24}
	all := []impl.Train{{}, train(nil, nil, 2000), train(front, rear, 0), train(rear, front, 2000), train(front[:0], rear[:0], 2000)}
	wrongFronts := [][]int64{
		nil, {}, {19}, {61}, {20, 20}, {60, 60}, {30, 20}, {19, 20}, {60, 61}, {19, 61}, {20, 61}, {0, 20}, {-20, 20},
		{20, 40, 40}, {20, 20, 40}, {40, 20, 60}, {20, 60, 40}, {60, 40, 20}, {19, 40, 60}, {20, 40, 61}, {20, 61, 60},
		{20, 30, 40, 50}, {20, 30, 40, 60}, {20, 30, 40, 40}, {20, 30, 40, 61}, someRising(12, 20, 60, 1), repeated(1000, int64(30)),
	}
	wrongRears := [][]int64{
		nil, {}, {8}, {53}, {9, 9}, {52, 52}, {20, 19}, {8, 9}, {52, 53}, {8, 53}, {9, 53}, {0, 9}, {-9, 9},
		{9, 20, 20}, {9, 9, 20}, {20, 9, 52}, {9, 52, 20}, {52, 20, 9}, {8, 20, 52}, {9, 20, 53}, {9, 53, 52},
		someRising(13, 9, 52, 1), someRising(44, 9, 52, 1), repeated(12, int64(20)), append(someRising(11, 9, 50, 1), 53),
		append([]int64{8}, someRising(11, 9, 52, 1)...), append(someRising(11, 20, 52, 1), 19), repeated(1000, int64(30)),
	}
	for _, teeth := range beyondRange(20, 60) {
		wrongFronts = append(wrongFronts, []int64{teeth}, []int64{teeth, 40}, []int64{40, teeth}, []int64{20, teeth, 60})
	}
	for _, teeth := range beyondRange(9, 52) {
		wrongRears = append(wrongRears, []int64{teeth}, []int64{teeth, 40}, []int64{40, teeth}, []int64{9, teeth, 52})
	}
	for _, wrong := range wrongFronts {
		all = append(all, train(wrong, rear, 2000), train(wrong, []int64{9}, 1000))
	}
	for _, wrong := range wrongRears {
		all = append(all, train(front, wrong, 2000), train([]int64{60}, wrong, 2500))
	}
	for _, round := range beyondRange(1000, 2500) {
		all = append(all, train(front, rear, round), trainOfOne(20, 9, round))
	}
	return all
}

// beyondRange returns numbers beyond low..high, among them some that are in it if only their last
// 32 bits count.
func beyondRange(low int64, high int64) []int64 {
	return []int64{low - 1, high + 1, low - 1000000, high + 1000000, 1<<32 + low, -1<<32 + high, math.MinInt64, math.MinInt64 + low, math.MaxInt64}
}

// beyondIndices returns numbers that are no indices of n elements.
func beyondIndices(n int) []int64 { return beyondRange(0, int64(n)-1) }

func ratioOf(x impl.Train, gear []int64) *big.Rat {
	return big.NewRat(x.Front[gear[0]], x.Rear[gear[1]])
}

func roundedDown(r *big.Rat) int64 {
	// Div rounds down for a positive divisor, unlike Quo.
	return new(big.Int).Div(r.Num(), r.Denom()).Int64()
}

func timesOf(r *big.Rat, n int64) *big.Rat { return new(big.Rat).Mul(r, big.NewRat(n, 1)) }

func expectedDevelopment(x impl.Train, gear []int64) int64 {
	exact := timesOf(ratioOf(x, gear), x.Round)
	return roundedDown(exact.Add(exact, big.NewRat(1, 2)))
}

func expectedOrder(x impl.Train) [][]int64 {
	var order [][]int64
	for front := range int64(len(x.Front)) {
		for rear := range int64(len(x.Rear)) {
			order = append(order, []int64{front, rear})
		}
	}
	slices.SortFunc(order, func(a, b []int64) int {
		return cmp.Or(ratioOf(x, a).Cmp(ratioOf(x, b)), cmp.Compare(a[0], b[0]))
	})
	return order
}

func expectedSpeed(x impl.Train, gear []int64, cadence int64) int64 {
	exact := timesOf(ratioOf(x, gear), 60*cadence*x.Round)
	return roundedDown(exact.Mul(exact, big.NewRat(1, 1000)))
}

// checkNoTrain calls f with trains that are not as described; f returns the code, and whether all
// else that its function returns is zero.
func checkNoTrain(t *testing.T, name string, f func(x impl.Train) (int64, bool)) {
	t.Helper()
	for _, x := range wrongTrains() {
		before := cloneOfTrain(x)
		if code, zero := f(x); code != impl.ErrInvalid || !zero {
			t.Errorf("%s with %d: %d, zero beside it: %v", name, x, code, zero)
		}
		if !sameTrain(x, before) {
			t.Errorf("%s has changed %d to %d", name, before, x)
		}
	}
}

// checkNoGear calls f with trains that are not as described, and with indices of no gear, beside
// which another argument may be right or wrong. f returns the code, and whether all else that its
// function returns is zero.
func checkNoGear(t *testing.T, name string, f func(x impl.Train, front int64, rear int64) (int64, bool)) {
	t.Helper()
	for _, indices := range [][]int64{{0, 0}, {1, 1}, {-1, 0}, {0, -1}, {3, 12}, {math.MinInt64, math.MaxInt64}} {
		checkNoTrain(t, name, func(x impl.Train) (int64, bool) { return f(x, indices[0], indices[1]) })
	}
	for _, x := range rightTrains() {
		check := func(front int64, rear int64) {
			t.Helper()
			if code, zero := f(x, front, rear); code != impl.ErrRange || !zero {
				t.Errorf("%s with %d, %d, %d: %d, zero beside it: %v", name, x, front, rear, code, zero)
			}
		}
		lastFront, lastRear := int64(len(x.Front))-1, int64(len(x.Rear))-1
		for _, front := range beyondIndices(len(x.Front)) {
			check(front, 0)
			check(front, lastRear)
			check(front, front)
		}
		for _, rear := range beyondIndices(len(x.Rear)) {
			check(0, rear)
			check(lastFront, rear)
			check(rear, -1)
		}
	}
}

func TestIsTrain(t *testing.T) {
	for _, x := range rightTrains() {
		before := cloneOfTrain(x)
		if !impl.IsTrain(x) {
			t.Errorf("IsTrain(%d) = false", x)
		}
		if !sameTrain(x, before) {
			t.Errorf("IsTrain has changed %d to %d", before, x)
		}
	}
	checkNoTrain(t, "IsTrain", func(x impl.Train) (int64, bool) { return impl.ErrInvalid, !impl.IsTrain(x) })
	for n := range 41 {
		if got, want := impl.IsTrain(train(straight(61)[20:20+n], []int64{12}, 2000)), n >= 1 && n <= 3; got != want {
			t.Errorf("IsTrain with %d chainrings = %v", n, got)
		}
		if got, want := impl.IsTrain(train([]int64{48}, straight(53)[9:9+n], 2000)), n >= 1 && n <= 12; got != want {
			t.Errorf("IsTrain with %d sprockets = %v", n, got)
		}
	}
	for round := int64(-100); round <= 3000; round++ {
		if got, want := impl.IsTrain(train([]int64{48}, []int64{12}, round)), round >= 1000 && round <= 2500; got != want {
			t.Errorf("IsTrain with a circumference of %d = %v", round, got)
		}
	}
}

func TestTeethOfTrains(t *testing.T) {
	isChainring := func(n int64) bool { return n >= 20 && n <= 60 }
	isSprocket := func(n int64) bool { return n >= 9 && n <= 52 }
	for first := int64(-2); first <= 70; first++ {
		if got := impl.IsTrain(trainOfOne(first, 12, 2000)); got != isChainring(first) {
			t.Errorf("IsTrain with a chainring of %d = %v", first, got)
		}
		if got := impl.IsTrain(trainOfOne(48, first, 2000)); got != isSprocket(first) {
			t.Errorf("IsTrain with a sprocket of %d = %v", first, got)
		}
		for second := int64(-2); second <= 70; second++ {
			two := []int64{first, second}
			if got, want := impl.IsTrain(train(two, []int64{12}, 2000)), isChainring(first) && isChainring(second) && first < second; got != want {
				t.Errorf("IsTrain with the chainrings %d = %v", two, got)
			}
			if got, want := impl.IsTrain(train([]int64{48}, two, 2000)), isSprocket(first) && isSprocket(second) && first < second; got != want {
				t.Errorf("IsTrain with the sprockets %d = %v", two, got)
			}
		}
	}
}

func TestDevelopmentOf(t *testing.T) {
	cases := []struct {
		x           impl.Train
		front, rear int64
		want        int64
	}{
		{usualTrain(), 0, 0, 4000},
		{usualTrain(), 0, 1, 2000},
		{usualTrain(), 1, 0, 8000},
		{usualTrain(), 1, 1, 4000},
		{greatestTrain(), 2, 0, 9951},
		{greatestTrain(), 0, 11, 1857},
		{greatestTrain(), 1, 10, 2737},
		// The least one and the greatest one of all.
		{trainOfOne(20, 52, 1000), 0, 0, 385},
		{trainOfOne(60, 9, 2500), 0, 0, 16667},
		// Halfway between two integers the greater one counts.
		{trainOfOne(20, 40, 1001), 0, 0, 501},
		{trainOfOne(20, 40, 1003), 0, 0, 502},
		{trainOfOne(25, 10, 1001), 0, 0, 2503},
		{trainOfOne(25, 50, 2499), 0, 0, 1250},
		{trainOfOne(21, 12, 1002), 0, 0, 1754},
		{trainOfOne(60, 48, 1002), 0, 0, 1253},
		{trainOfOne(60, 48, 1006), 0, 0, 1258},
		// Just less than that, and just more.
		{trainOfOne(22, 9, 1000), 0, 0, 2444},
		{trainOfOne(23, 9, 1000), 0, 0, 2556},
		{trainOfOne(20, 51, 1034), 0, 0, 405},
		{trainOfOne(20, 51, 1057), 0, 0, 415},
	}
	for _, c := range cases {
		if development, code := impl.DevelopmentOf(c.x, c.front, c.rear); code != impl.ErrNone || development != c.want {
			t.Errorf("DevelopmentOf(%d, %d, %d) = %d, %d, not %d", c.x, c.front, c.rear, development, code, c.want)
		}
	}
	for _, x := range rightTrains() {
		for _, gear := range expectedOrder(x) {
			if development, code := impl.DevelopmentOf(x, gear[0], gear[1]); code != impl.ErrNone || development != expectedDevelopment(x, gear) {
				t.Errorf("DevelopmentOf(%d, %d) = %d, %d, not %d", x, gear, development, code, expectedDevelopment(x, gear))
			}
		}
	}
}

// TestDevelopmentsOfAllTeeth checks that no integer is nearer than a development, and that the next
// one is further away.
func TestDevelopmentsOfAllTeeth(t *testing.T) {
	halves := 0
	for _, round := range []int64{1000, 1001, 1234, 2096, 2105, 2499, 2500} {
		for chainring := int64(20); chainring <= 60; chainring++ {
			for sprocket := int64(9); sprocket <= 52; sprocket++ {
				development, code := impl.DevelopmentOf(trainOfOne(chainring, sprocket, round), 0, 0)
				// Twice as much as it is too great, in parts of the sprocket.
				tooGreat := 2 * (development*sprocket - round*chainring)
				if code != impl.ErrNone || tooGreat > sprocket || tooGreat <= -sprocket {
					t.Fatalf("the development of %d/%d at %d is %d, %d", chainring, sprocket, round, development, code)
				}
				if tooGreat == sprocket {
					halves++
				}
			}
		}
	}
	if halves < 50 {
		t.Errorf("only %d developments are halves", halves)
	}
}

func TestDevelopmentOfErrors(t *testing.T) {
	checkNoGear(t, "DevelopmentOf", func(x impl.Train, front int64, rear int64) (int64, bool) {
		development, code := impl.DevelopmentOf(x, front, rear)
		return code, development == 0
	})
}

func TestGearOrder(t *testing.T) {
	cases := []struct {
		x    impl.Train
		want [][]int64
	}{
		{usualTrain(), [][]int64{{0, 1}, {0, 0}, {1, 1}, {1, 0}}},
		{trainOfOne(20, 9, 1000), [][]int64{{0, 0}}},
		{trainOfOne(60, 52, 2500), [][]int64{{0, 0}}},
		// The greatest sprocket comes first, and the greatest chainring last.
		{train([]int64{32}, []int64{11, 13, 15, 17}, 2000), [][]int64{{0, 3}, {0, 2}, {0, 1}, {0, 0}}},
		{train([]int64{20, 30, 40}, []int64{16}, 2000), [][]int64{{0, 0}, {1, 0}, {2, 0}}},
		// One chainring after the other, and all of them for each sprocket.
		{train([]int64{20, 60}, []int64{20, 21, 22}, 2000), [][]int64{{0, 2}, {0, 1}, {0, 0}, {1, 2}, {1, 1}, {1, 0}}},
		{train([]int64{40, 41, 42}, []int64{10, 50}, 2000), [][]int64{{0, 1}, {1, 1}, {2, 1}, {0, 0}, {1, 0}, {2, 0}}},
		// Equal ratios come by the index of the chainring, also three of them.
		{train([]int64{20, 40, 60}, []int64{10, 20, 30}, 2000), [][]int64{{0, 2}, {0, 1}, {1, 2}, {0, 0}, {1, 1}, {2, 2}, {2, 1}, {1, 0}, {2, 0}}},
		{trainOfThrees(), [][]int64{{0, 3}, {0, 2}, {0, 1}, {1, 3}, {1, 2}, {2, 3}, {0, 0}, {1, 1}, {2, 2}, {2, 1}, {1, 0}, {2, 0}}},
		// Ratios that differ by less than a thousandth.
		{train([]int64{52, 53}, []int64{51, 52}, 1020), [][]int64{{0, 1}, {1, 1}, {0, 0}, {1, 0}}},
		{train([]int64{53, 56}, []int64{18, 19}, 2000), [][]int64{{0, 1}, {0, 0}, {1, 1}, {1, 0}}},
	}
	for _, c := range cases {
		if order, code := impl.GearOrder(c.x); code != impl.ErrNone || !sameRows(order, c.want) {
			t.Errorf("GearOrder(%d) = %d, %d, not %d", c.x, order, code, c.want)
		}
	}
}

// TestTheOrderHasEachGearOnce looks at the gears next to each other, and compares with the model.
func TestTheOrderHasEachGearOnce(t *testing.T) {
	equal := 0
	for _, x := range rightTrains() {
		order, code := impl.GearOrder(x)
		if code != impl.ErrNone || len(order) != len(x.Front)*len(x.Rear) {
			t.Fatalf("GearOrder(%d) = %d, %d", x, order, code)
		}
		seen := map[[2]int64]bool{}
		for i, gear := range order {
			if len(gear) != 2 || gear[0] < 0 || gear[0] >= int64(len(x.Front)) || gear[1] < 0 || gear[1] >= int64(len(x.Rear)) || seen[[2]int64(gear)] {
				t.Fatalf("GearOrder(%d) = %d", x, order)
			}
			seen[[2]int64(gear)] = true
			if i == 0 {
				continue
			}
			rising := ratioOf(x, order[i-1]).Cmp(ratioOf(x, gear))
			if rising > 0 || rising == 0 && order[i-1][0] >= gear[0] {
				t.Errorf("GearOrder(%d) has %d before %d", x, order[i-1], gear)
			}
			if rising == 0 {
				equal++
			}
		}
		if want := expectedOrder(x); !sameRows(order, want) {
			t.Errorf("GearOrder(%d) = %d, not %d", x, order, want)
		}
	}
	if equal < 10 {
		t.Errorf("only %d gears have the ratio of the one before", equal)
	}
}

// TestOrderOfFourGears compares all trains with two chainrings, near to each other, and any two
// sprockets.
func TestOrderOfFourGears(t *testing.T) {
	for front := int64(20); front <= 50; front += 3 {
		for further := int64(1); further <= 10; further++ {
			for first := int64(9); first < 52; first++ {
				for second := first + 1; second <= 52; second++ {
					x := train([]int64{front, front + further}, []int64{first, second}, 2000)
					// The other two gears are the first one and the last one in any case.
					want := [][]int64{{0, 1}, {1, 1}, {0, 0}, {1, 0}}
					if front*second <= (front+further)*first {
						want = [][]int64{{0, 1}, {0, 0}, {1, 1}, {1, 0}}
					}
					if order, code := impl.GearOrder(x); code != impl.ErrNone || !sameRows(order, want) {
						t.Fatalf("GearOrder(%d) = %d, %d, not %d", x, order, code, want)
					}
				}
			}
		}
	}
}

func TestGearOrderErrors(t *testing.T) {
	checkNoTrain(t, "GearOrder", func(x impl.Train) (int64, bool) {
		order, code := impl.GearOrder(x)
		return code, len(order) == 0
	})
}

func TestNearestGear(t *testing.T) {
	cases := []struct {
		x           impl.Train
		development int64
		front, rear int64
	}{
		// The developments are 2000, 4000, 4000 and 8000.
		{usualTrain(), 0, 0, 1},
		{usualTrain(), 2000, 0, 1},
		{usualTrain(), 2999, 0, 1},
		{usualTrain(), 3000, 0, 1},
		{usualTrain(), 3001, 0, 0},
		{usualTrain(), 3900, 0, 0},
		{usualTrain(), 4000, 0, 0},
		{usualTrain(), 4100, 0, 0},
		{usualTrain(), 5999, 0, 0},
		{usualTrain(), 6000, 0, 0},
		{usualTrain(), 6001, 1, 0},
		{usualTrain(), 8000, 1, 0},
		{usualTrain(), 20000, 1, 0},
		// Different ratios, but the same development: 1020, 1040, 1040 and 1060.
		{train([]int64{52, 53}, []int64{51, 52}, 1020), 1030, 0, 1},
		{train([]int64{52, 53}, []int64{51, 52}, 1020), 1031, 1, 1},
		{train([]int64{52, 53}, []int64{51, 52}, 1020), 1040, 1, 1},
		{train([]int64{52, 53}, []int64{51, 52}, 1020), 1050, 1, 1},
		{train([]int64{52, 53}, []int64{51, 52}, 1020), 1051, 1, 0},
		// The developments are 501, rounded from 500.5, and 1001, so that 751 is as near to both.
		{train([]int64{20}, []int64{20, 40}, 1001), 750, 0, 1},
		{train([]int64{20}, []int64{20, 40}, 1001), 751, 0, 1},
		{train([]int64{20}, []int64{20, 40}, 1001), 752, 0, 0},
		// Three gears with a ratio of 2, and only one in the train.
		{trainOfThrees(), 4192, 0, 0},
		{trainOfOne(60, 9, 2500), 0, 0, 0},
		{trainOfOne(60, 9, 2500), 16667, 0, 0},
		{trainOfOne(20, 52, 1000), 20000, 0, 0},
	}
	for _, c := range cases {
		if front, rear, code := impl.NearestGear(c.x, c.development); code != impl.ErrNone || front != c.front || rear != c.rear {
			t.Errorf("NearestGear(%d, %d) = %d, %d, %d, not %d, %d", c.x, c.development, front, rear, code, c.front, c.rear)
		}
	}
}

func nearestOf(order [][]int64, developments []int64, development int64) []int64 {
	nearest := 0
	for i, other := range developments {
		if math.Abs(float64(other-development)) < math.Abs(float64(developments[nearest]-development)) {
			nearest = i
		}
	}
	return order[nearest]
}

func TestNearestGearForAllDevelopments(t *testing.T) {
	for i, x := range rightTrains() {
		order := expectedOrder(x)
		var developments []int64
		for _, gear := range order {
			developments = append(developments, expectedDevelopment(x, gear))
		}
		step := int64(97)
		if i < 3 {
			step = 1
		}
		for development := int64(0); development <= 20000; development += step {
			want := nearestOf(order, developments, development)
			if front, rear, code := impl.NearestGear(x, development); code != impl.ErrNone || front != want[0] || rear != want[1] {
				t.Fatalf("NearestGear(%d, %d) = %d, %d, %d, not %d", x, development, front, rear, code, want)
			}
		}
		for k := range developments[1:] {
			// In the middle between two, and beside it.
			for development := (developments[k]+developments[k+1])/2 - 1; development <= (developments[k]+developments[k+1])/2+1; development++ {
				want := nearestOf(order, developments, development)
				if front, rear, code := impl.NearestGear(x, development); code != impl.ErrNone || front != want[0] || rear != want[1] {
					t.Fatalf("NearestGear(%d, %d) = %d, %d, %d, not %d", x, development, front, rear, code, want)
				}
			}
		}
	}
}

func TestNearestGearErrors(t *testing.T) {
	for _, development := range append(beyondRange(0, 20000), 0, 4000, 20000) {
		checkNoTrain(t, "NearestGear", func(x impl.Train) (int64, bool) {
			front, rear, code := impl.NearestGear(x, development)
			return code, front == 0 && rear == 0
		})
	}
	for _, x := range rightTrains() {
		for _, development := range beyondRange(0, 20000) {
			if front, rear, code := impl.NearestGear(x, development); code != impl.ErrRange || front != 0 || rear != 0 {
				t.Errorf("NearestGear(%d, %d) = %d, %d, %d", x, development, front, rear, code)
			}
		}
	}
}

func TestStepsOf(t *testing.T) {
	cases := []struct {
		x    impl.Train
		want []int64
	}{
		{usualTrain(), []int64{1000, 0, 1000}},
		{trainOfOne(20, 9, 1000), nil},
		{trainOfOne(60, 52, 2500), nil},
		{train([]int64{20}, []int64{20, 25}, 2000), []int64{250}},
		{train([]int64{40, 50}, []int64{20}, 2000), []int64{250}},
		{train([]int64{32}, []int64{11, 13, 15, 17}, 2000), []int64{133, 153, 181}},
		{trainOfThrees(), []int64{333, 500, 0, 333, 125, 333, 0, 0, 500, 333, 500}},
		{train([]int64{20, 60}, []int64{9, 52}, 2500), []int64{2000, 925, 2000}},
		// A step of just a thousandth of 999/1000, and one that falls short of it: 1/1007.
		{train([]int64{37, 40}, []int64{25, 27}, 2000), []int64{80, 1, 80}},
		{train([]int64{53, 56}, []int64{18, 19}, 2000), []int64{55, 0, 55}},
		{train([]int64{52, 53}, []int64{51, 52}, 1020), []int64{19, 0, 19}},
		// Steps of just 3 and just 8 thousandths, and one that falls short of 3.
		{train([]int64{20, 59}, []int64{17, 50}, 2000), []int64{1941, 3, 1941}},
		{train([]int64{20, 21}, []int64{24, 25}, 2000), []int64{41, 8, 41}},
		{train([]int64{38, 43}, []int64{39, 44}, 2000), []int64{128, 2, 128}},
		{train([]int64{20}, []int64{9, 52}, 2000), []int64{4777}},
		{train([]int64{20, 60}, []int64{9}, 2000), []int64{2000}},
	}
	for _, c := range cases {
		if steps, code := impl.StepsOf(c.x); code != impl.ErrNone || !slices.Equal(steps, c.want) {
			t.Errorf("StepsOf(%d) = %d, %d, not %d", c.x, steps, code, c.want)
		}
	}
	for _, x := range rightTrains() {
		order := expectedOrder(x)
		var want []int64
		for i := 1; i < len(order); i++ {
			before := ratioOf(x, order[i-1])
			exact := new(big.Rat).Sub(ratioOf(x, order[i]), before)
			want = append(want, roundedDown(timesOf(exact.Quo(exact, before), 1000)))
		}
		if steps, code := impl.StepsOf(x); code != impl.ErrNone || !slices.Equal(steps, want) {
			t.Errorf("StepsOf(%d) = %d, %d, not %d", x, steps, code, want)
		}
	}
	checkNoTrain(t, "StepsOf", func(x impl.Train) (int64, bool) {
		steps, code := impl.StepsOf(x)
		return code, len(steps) == 0
	})
}

// TestStepsOfOneSprocketToTheNext compares the only step of each train with one chainring and two
// sprockets, and with two chainrings and one sprocket.
func TestStepsOfOneSprocketToTheNext(t *testing.T) {
	for less := int64(9); less <= 60; less++ {
		for more := less + 1; more <= 60; more++ {
			want := []int64{1000 * (more - less) / less}
			if more <= 52 {
				x := train([]int64{43}, []int64{less, more}, 2000)
				if steps, code := impl.StepsOf(x); code != impl.ErrNone || !slices.Equal(steps, want) {
					t.Errorf("StepsOf(%d) = %d, %d, not %d", x, steps, code, want)
				}
			}
			if less >= 20 {
				x := train([]int64{less, more}, []int64{17}, 2000)
				if steps, code := impl.StepsOf(x); code != impl.ErrNone || !slices.Equal(steps, want) {
					t.Errorf("StepsOf(%d) = %d, %d, not %d", x, steps, code, want)
				}
			}
		}
	}
}

func TestEqualGears(t *testing.T) {
	cases := []struct {
		x    impl.Train
		want [][]int64
	}{
		{usualTrain(), [][]int64{{1, 1}}},
		{trainOfOne(20, 9, 1000), nil},
		{trainOfOne(60, 52, 2500), nil},
		{train([]int64{32}, []int64{11, 13, 15, 17}, 2000), nil},
		{train([]int64{20, 30, 40}, []int64{16}, 2000), nil},
		// Of three the latter two, and pairs before them.
		{train([]int64{20, 40, 60}, []int64{10, 20, 30}, 2000), [][]int64{{1, 1}, {2, 2}}},
		{trainOfThrees(), [][]int64{{1, 3}, {1, 1}, {2, 2}}},
		{train([]int64{24, 36, 48}, []int64{12, 18, 24, 36}, 1999), [][]int64{{1, 3}, {2, 3}, {1, 1}, {2, 2}}},
		// A step of less than a thousandth does not make gears equal, nor does the same development.
		{train([]int64{53, 56}, []int64{18, 19}, 2000), nil},
		{train([]int64{52, 53}, []int64{51, 52}, 1020), nil},
	}
	for _, c := range cases {
		if equal, code := impl.EqualGears(c.x); code != impl.ErrNone || !sameRows(equal, c.want) {
			t.Errorf("EqualGears(%d) = %d, %d, not %d", c.x, equal, code, c.want)
		}
	}
	for _, x := range rightTrains() {
		order := expectedOrder(x)
		var want [][]int64
		for i := 1; i < len(order); i++ {
			if ratioOf(x, order[i]).Cmp(ratioOf(x, order[i-1])) == 0 {
				want = append(want, order[i])
			}
		}
		if equal, code := impl.EqualGears(x); code != impl.ErrNone || !sameRows(equal, want) {
			t.Errorf("EqualGears(%d) = %d, %d, not %d", x, equal, code, want)
		}
	}
	checkNoTrain(t, "EqualGears", func(x impl.Train) (int64, bool) {
		equal, code := impl.EqualGears(x)
		return code, len(equal) == 0
	})
}

func TestRangeOf(t *testing.T) {
	cases := []struct {
		x    impl.Train
		want int64
	}{
		{usualTrain(), 400},
		{trainOfOne(20, 9, 1000), 100},
		{trainOfOne(60, 52, 2500), 100},
		{trainOfOne(32, 16, 1234), 100},
		{train([]int64{20, 60}, []int64{9, 52}, 2500), 1733},
		{train([]int64{20, 40, 60}, []int64{9, 30, 52}, 2500), 1733},
		// Rounded down, from more than a half too.
		{train([]int64{30}, []int64{9, 10}, 2000), 111},
		{train([]int64{30}, []int64{11, 19}, 2000), 172},
		{train([]int64{59, 60}, []int64{12}, 2000), 101},
		{train([]int64{30}, []int64{51, 52}, 2000), 101},
		{train([]int64{20, 59}, []int64{51, 52}, 2000), 300},
		{train([]int64{50, 51}, []int64{12}, 2000), 102},
		{greatestTrain(), 535},
	}
	for _, c := range cases {
		if got, code := impl.RangeOf(c.x); code != impl.ErrNone || got != c.want {
			t.Errorf("RangeOf(%d) = %d, %d, not %d", c.x, got, code, c.want)
		}
	}
	for _, x := range rightTrains() {
		order := expectedOrder(x)
		exact := ratioOf(x, order[len(order)-1])
		exact.Quo(exact, ratioOf(x, order[0]))
		if got, code := impl.RangeOf(x); code != impl.ErrNone || got != roundedDown(timesOf(exact, 100)) {
			t.Errorf("RangeOf(%d) = %d, %d, not %d", x, got, code, roundedDown(timesOf(exact, 100)))
		}
	}
	checkNoTrain(t, "RangeOf", func(x impl.Train) (int64, bool) {
		got, code := impl.RangeOf(x)
		return code, got == 0
	})
}

func TestSpeedAt(t *testing.T) {
	cases := []struct {
		x           impl.Train
		front, rear int64
		cadence     int64
		want        int64
	}{
		{usualTrain(), 1, 0, 90, 43200},
		{usualTrain(), 1, 0, 0, 0},
		{usualTrain(), 0, 1, 1, 120},
		{usualTrain(), 0, 1, 200, 24000},
		{usualTrain(), 1, 1, 1, 240},
		// The least one and the greatest one of all.
		{trainOfOne(20, 52, 1000), 0, 0, 1, 23},
		{trainOfOne(60, 9, 2500), 0, 0, 200, 200000},
		{trainOfOne(60, 9, 2500), 0, 0, 199, 199000},
		// Rounded down, and only at the end: the ratio is exact, and so is the development.
		{trainOfOne(20, 9, 1000), 0, 0, 1, 133},
		{trainOfOne(20, 9, 1000), 0, 0, 2, 266},
		{trainOfOne(20, 9, 1000), 0, 0, 3, 400},
		{trainOfOne(20, 40, 1001), 0, 0, 1, 30},
		{trainOfOne(20, 40, 1001), 0, 0, 100, 3003},
		{trainOfOne(25, 10, 1001), 0, 0, 200, 30030},
		{trainOfOne(60, 48, 1006), 0, 0, 80, 6036},
		{trainOfOne(23, 9, 1000), 0, 0, 60, 9200},
		{trainOfOne(22, 9, 1000), 0, 0, 60, 8800},
		{greatestTrain(), 2, 0, 110, 65676},
	}
	for _, c := range cases {
		if speed, code := impl.SpeedAt(c.x, c.front, c.rear, c.cadence); code != impl.ErrNone || speed != c.want {
			t.Errorf("SpeedAt(%d, %d, %d, %d) = %d, %d, not %d", c.x, c.front, c.rear, c.cadence, speed, code, c.want)
		}
	}
}

// checkCadence asks for the cadence for a speed, and compares with the first one of all speeds
// that is not less.
func checkCadence(t *testing.T, x impl.Train, gear []int64, speeds []int64, speed int64) {
	t.Helper()
	want, wantCode := int64(0), int64(impl.ErrNotFound)
	if at := slices.IndexFunc(speeds, func(n int64) bool { return n >= speed }); at >= 0 {
		want, wantCode = int64(at), impl.ErrNone
	}
	if cadence, code := impl.CadenceFor(x, gear[0], gear[1], speed); code != wantCode || cadence != want {
		t.Fatalf("CadenceFor(%d, %d, %d) = %d, %d, not %d, %d", x, gear, speed, cadence, code, want, wantCode)
	}
}

// TestGreaterCadencesAreNotSlower compares the speeds of all gears at all cadences, and asks for
// the cadences back.
func TestGreaterCadencesAreNotSlower(t *testing.T) {
	for _, x := range rightTrains() {
		for _, gear := range expectedOrder(x) {
			var speeds []int64
			for cadence := range int64(201) {
				speed, code := impl.SpeedAt(x, gear[0], gear[1], cadence)
				if want := expectedSpeed(x, gear, cadence); code != impl.ErrNone || speed != want {
					t.Fatalf("SpeedAt(%d, %d, %d) = %d, %d, not %d", x, gear, cadence, speed, code, want)
				}
				if cadence > 0 && speed < speeds[cadence-1] {
					t.Fatalf("SpeedAt(%d, %d, %d) = %d is slower than %d", x, gear, cadence, speed, speeds[cadence-1])
				}
				speeds = append(speeds, speed)
			}
			for _, cadence := range []int64{1, 2, 77, 90, 199, 200} {
				for speed := max(speeds[cadence]-1, 0); speed <= min(speeds[cadence]+1, 200000); speed++ {
					checkCadence(t, x, gear, speeds, speed)
				}
			}
		}
	}
}

func TestSpeedAtErrors(t *testing.T) {
	for _, cadence := range []int64{-1, 0, 90, 200, 201, math.MinInt64, math.MaxInt64} {
		checkNoGear(t, "SpeedAt", func(x impl.Train, front int64, rear int64) (int64, bool) {
			speed, code := impl.SpeedAt(x, front, rear, cadence)
			return code, speed == 0
		})
	}
	for _, x := range rightTrains() {
		for _, cadence := range beyondRange(0, 200) {
			for _, gear := range expectedOrder(x) {
				if speed, code := impl.SpeedAt(x, gear[0], gear[1], cadence); code != impl.ErrRange || speed != 0 {
					t.Errorf("SpeedAt(%d, %d, %d) = %d, %d", x, gear, cadence, speed, code)
				}
			}
		}
	}
}

func TestCadenceFor(t *testing.T) {
	cases := []struct {
		x           impl.Train
		front, rear int64
		speed       int64
		want        int64
		code        int64
	}{
		// A speed that is just reached, and one more.
		{usualTrain(), 1, 0, 43200, 90, impl.ErrNone},
		{usualTrain(), 1, 0, 43201, 91, impl.ErrNone},
		{usualTrain(), 1, 0, 43199, 90, impl.ErrNone},
		{usualTrain(), 1, 0, 0, 0, impl.ErrNone},
		{usualTrain(), 1, 0, 1, 1, impl.ErrNone},
		{usualTrain(), 1, 0, 480, 1, impl.ErrNone},
		{usualTrain(), 1, 0, 481, 2, impl.ErrNone},
		// The greatest speed of the gear, and one more.
		{usualTrain(), 1, 0, 96000, 200, impl.ErrNone},
		{usualTrain(), 1, 0, 96001, 0, impl.ErrNotFound},
		{usualTrain(), 1, 0, 200000, 0, impl.ErrNotFound},
		{usualTrain(), 0, 1, 24000, 200, impl.ErrNone},
		{usualTrain(), 0, 1, 24001, 0, impl.ErrNotFound},
		// The greatest speed of all.
		{trainOfOne(60, 9, 2500), 0, 0, 200000, 200, impl.ErrNone},
		{trainOfOne(60, 9, 2500), 0, 0, 199001, 200, impl.ErrNone},
		{trainOfOne(60, 9, 2500), 0, 0, 199000, 199, impl.ErrNone},
		// The speeds are rounded down: 133.3, 266.6 and 400.
		{trainOfOne(20, 9, 1000), 0, 0, 133, 1, impl.ErrNone},
		{trainOfOne(20, 9, 1000), 0, 0, 134, 2, impl.ErrNone},
		{trainOfOne(20, 9, 1000), 0, 0, 266, 2, impl.ErrNone},
		{trainOfOne(20, 9, 1000), 0, 0, 267, 3, impl.ErrNone},
		{trainOfOne(20, 9, 1000), 0, 0, 400, 3, impl.ErrNone},
		{trainOfOne(20, 9, 1000), 0, 0, 26666, 200, impl.ErrNone},
		{trainOfOne(20, 9, 1000), 0, 0, 26667, 0, impl.ErrNotFound},
		{trainOfOne(20, 52, 1000), 0, 0, 4615, 200, impl.ErrNone},
		{trainOfOne(20, 52, 1000), 0, 0, 4616, 0, impl.ErrNotFound},
	}
	for _, c := range cases {
		if cadence, code := impl.CadenceFor(c.x, c.front, c.rear, c.speed); code != c.code || cadence != c.want {
			t.Errorf("CadenceFor(%d, %d, %d, %d) = %d, %d, not %d, %d", c.x, c.front, c.rear, c.speed, cadence, code, c.want, c.code)
		}
	}
}

func TestCadencesForAllSpeeds(t *testing.T) {
	for _, x := range []impl.Train{trainOfOne(60, 9, 2500), trainOfOne(20, 52, 1000), trainOfOne(42, 17, 2105)} {
		var speeds []int64
		for cadence := range int64(201) {
			speeds = append(speeds, expectedSpeed(x, []int64{0, 0}, cadence))
		}
		for speed := range int64(200001) {
			checkCadence(t, x, []int64{0, 0}, speeds, speed)
		}
	}
}

func TestCadenceForErrors(t *testing.T) {
	for _, speed := range []int64{-1, 0, 20000, 200000, 200001, math.MinInt64, math.MaxInt64} {
		checkNoGear(t, "CadenceFor", func(x impl.Train, front int64, rear int64) (int64, bool) {
			cadence, code := impl.CadenceFor(x, front, rear, speed)
			return code, cadence == 0
		})
	}
	for _, x := range rightTrains() {
		for _, speed := range beyondRange(0, 200000) {
			for _, gear := range expectedOrder(x) {
				if cadence, code := impl.CadenceFor(x, gear[0], gear[1], speed); code != impl.ErrRange || cadence != 0 {
					t.Errorf("CadenceFor(%d, %d, %d) = %d, %d", x, gear, speed, cadence, code)
				}
			}
		}
	}
}

// rowsOfChapter9 calls all functions of chapter 9, and returns the lists that they return, and
// those in them.
func rowsOfChapter9(x impl.Train) map[string][][]int64 {
	all := map[string][][]int64{}
	all["GearOrder"], _ = impl.GearOrder(x)
	all["EqualGears"], _ = impl.EqualGears(x)
	if steps, _ := impl.StepsOf(x); len(steps) > 0 {
		all["StepsOf"] = [][]int64{steps}
	}
	impl.IsTrain(x)
	impl.RangeOf(x)
	impl.NearestGear(x, 4000)
	impl.DevelopmentOf(x, 0, 0)
	impl.DevelopmentOf(x, -1, 0)
	impl.SpeedAt(x, 0, 0, 90)
	impl.CadenceFor(x, 0, 0, 20000)
	return all
}

// overwrite fills a list of lists up to its capacity, and the lists in it up to theirs.
func overwrite(rows [][]int64, n int64) {
	for _, row := range rows[:cap(rows)] {
		row = row[:cap(row)]
		for i := range row {
			row[i] = n
		}
	}
}

func TestArgumentsOfChapter9AreLeftAlone(t *testing.T) {
	// What is behind each list stands in its spare capacity.
	front, rear := []int64{20, 40, 60, 70, 80}, []int64{10, 20, 30, 40, 50, 60}
	frontBefore, rearBefore := slices.Clone(front), slices.Clone(rear)
	check := func(what string) {
		t.Helper()
		if !slices.Equal(front, frontBefore) || !slices.Equal(rear, rearBefore) {
			t.Fatalf("%s: an argument, or what is behind it, was changed to %d, %d", what, front, rear)
		}
	}
	x := train(front[:3], rear[:4], 2096)
	results := rowsOfChapter9(x)
	check("results")
	if len(results["GearOrder"]) != 12 || len(results["EqualGears"]) != 3 || len(results["StepsOf"]) != 1 {
		t.Fatalf("results: %v", results)
	}
	rowsOfChapter9(train(front[:5], rear[:4], 2096))
	rowsOfChapter9(train(front[:3], rear[:6], 2096))
	rowsOfChapter9(train(front[:3], rear[:4], 20))
	check("errors")
	for name, rows := range results {
		overwrite(rows, 7000)
		check("a changed result of " + name)
	}
	for name, rows := range rowsOfChapter9(x) {
		for _, row := range rows {
			if slices.Contains(row, 7000) {
				t.Errorf("two results of %s share memory", name)
			}
		}
	}
}

// TestRowsOfChapter9ShareNoMemory changes the rows of a result one by one.
func TestRowsOfChapter9ShareNoMemory(t *testing.T) {
	for _, x := range rightTrains() {
		for name, rows := range rowsOfChapter9(x) {
			for i := range rows {
				others := make([][]int64, 0, len(rows))
				for k := range rows {
					if k != i {
						others = append(others, slices.Clone(rows[k]))
					}
				}
				overwrite(rows[i:i+1:i+1], 7000)
				if !sameRows(others, slices.Concat(rows[:i], rows[i+1:])) {
					t.Fatalf("%s(%d): row %d shares memory with another one", name, x, i)
				}
			}
		}
	}
}
