package tests

import (
	"math"
	"math/big"
	"sync"
	"testing"

	"loop.example/g01050/impl"
)

// wrongSteps returns numbers beyond -MaxSteps..MaxSteps.
func wrongSteps() []int64 {
	return []int64{-100001, 100001, -100080, 100080, 100180, -1000000000000, 1000000000000,
		math.MinInt64, math.MinInt64 + 1, math.MinInt64 + 180, math.MaxInt64, math.MaxInt64 - 180}
}

// wrongRadii returns numbers beyond 0..MaxRadius.
func wrongRadii() []int64 {
	return []int64{-1, 10001, -10000, 20000, math.MinInt64, math.MaxInt64, 1 << 32, -1 << 32}
}

// someSteps returns steps beside all quarter turns in -MaxSteps..MaxSteps, others between them
// and the limits.
func someSteps() []int64 {
	all := []int64{-100000, -99999, 99999, 100000}
	for quarter := int64(-99900); quarter <= 99900; quarter += 180 {
		all = append(all, quarter-1, quarter, quarter+1, quarter+61)
	}
	return all
}

func someRadii() []int64 {
	return []int64{0, 1, 2, 3, 7, 10, 250, 333, 622, 1250, 2500, 5000, 6220, 9375, 9999, 10000}
}

// nearestOfTwo returns n / d rounded as the document asks, by another way than the program: d is
// doubled, and the numbers may be as great as they like.
func nearestOfTwo(n *big.Int, d int64) int64 {
	doubled := new(big.Int).Mul(n, big.NewInt(2))
	doubled.Add(doubled, big.NewInt(d))
	// Div rounds down for a positive divisor, unlike Quo.
	return doubled.Div(doubled, big.NewInt(2*d)).Int64()
}

func productOf(factors ...int64) *big.Int {
	product := big.NewInt(1)
	for _, n := range factors {
		product.Mul(product, big.NewInt(n))
	}
	return product
}

// expectedCosines returns the cosines of 0 to 719 steps.
func expectedCosines() []int64 {
	c := []int64{1000000000, 999961923}
	for k := 2; k < 180; k++ {
		c = append(c, nearestOfTwo(productOf(2, 999961923, c[k-1]), 1000000000)-c[k-2])
	}
	c = append(c, 0)
	for k := 181; k <= 360; k++ {
		c = append(c, -c[360-k])
	}
	for k := 361; k < 720; k++ {
		c = append(c, c[720-k])
	}
	return c
}

func expectedSquare(cosines []int64, a int64, b int64, steps int64) int64 {
	return a*a + b*b - nearestOfTwo(productOf(2, a, b, cosines[(steps%720+720)%720]), 1000000000)
}

// isNearestRoot reports whether no integer is nearer to the square root of n than root, with all
// sides doubled and squared.
func isNearestRoot(root int64, n int64) bool {
	return root >= 0 && 4*n <= (2*root+1)*(2*root+1) && (root == 0 || 4*n >= (2*root-1)*(2*root-1))
}

// This test comes first in its file so that the table of cosines has, if nothing else in the
// package has asked for it, still to be made.
func TestCosinesForManyAtOnce(t *testing.T) {
	want := expectedCosines()
	var workers sync.WaitGroup
	for range 16 {
		workers.Go(func() {
			for steps := int64(719); steps >= 0; steps-- {
				if c, code := impl.CosineOf(steps); code != impl.ErrNone || c != want[steps] {
					t.Errorf("CosineOf(%d) = %d, %d, not %d", steps, c, code, want[steps])
					return
				}
			}
		})
	}
	workers.Wait()
}

func TestConstantsOfChapter3(t *testing.T) {
	if impl.Unit != 1000000000 || impl.FirstCosine != 999961923 || impl.FullTurn != 720 || impl.MaxSteps != 100000 || impl.MaxRadius != 10000 {
		t.Error("constants", impl.Unit, impl.FirstCosine, impl.FullTurn, impl.MaxSteps, impl.MaxRadius)
	}
}

func TestCosineOfAndSineOf(t *testing.T) {
	cases := []struct{ steps, cosine, sine int64 }{
		{0, 1000000000, 0},
		{1, 999961923, 8725497},
		{2, 999847695, 17451376},
		{3, 999657325, 26175926},
		{4, 999390827, 34898483},
		{5, 999048221, 43618382},
		{59, 870355544, 492422981},
		{60, 866025247, 499999428},
		{90, 707106444, 707106444},
		{120, 499999428, 866025247},
		{150, 258818239, 965925784},
		{178, 17451376, 999847695},
		{179, 8725497, 999961923},
		{180, 0, 1000000000},
		{181, -8725497, 999961923},
		{182, -17451376, 999847695},
		{240, -499999428, 866025247},
		{300, -866025247, 499999428},
		{359, -999961923, 8725497},
		{360, -1000000000, 0},
		{361, -999961923, -8725497},
		{539, -8725497, -999961923},
		{540, 0, -1000000000},
		{541, 8725497, -999961923},
		{660, 866025247, -499999428},
		{719, 999961923, -8725497},
		{720, 1000000000, 0},
		{721, 999961923, 8725497},
		{-1, 999961923, -8725497},
		{-179, 8725497, -999961923},
		{-180, 0, -1000000000},
		{-181, -8725497, -999961923},
		{-359, -999961923, -8725497},
		{-360, -1000000000, 0},
		{-361, -999961923, 8725497},
		{-720, 1000000000, 0},
		{99360, 1000000000, 0},
		{99720, -1000000000, 0},
		{100000, 766044172, -642787198},
		{-100000, 766044172, 642787198},
		{99999, 760405688, -649447644},
		{-99999, 760405688, 649447644},
	}
	for _, c := range cases {
		if cosine, code := impl.CosineOf(c.steps); code != impl.ErrNone || cosine != c.cosine {
			t.Errorf("CosineOf(%d) = %d, %d, not %d", c.steps, cosine, code, c.cosine)
		}
		if sine, code := impl.SineOf(c.steps); code != impl.ErrNone || sine != c.sine {
			t.Errorf("SineOf(%d) = %d, %d, not %d", c.steps, sine, code, c.sine)
		}
	}
}

func TestCosinesOfAllSteps(t *testing.T) {
	want := expectedCosines()
	for steps := int64(-100000); steps <= 100000; steps++ {
		rest := (steps + 720000) % 720
		if c, code := impl.CosineOf(steps); code != impl.ErrNone || c != want[rest] {
			t.Fatalf("CosineOf(%d) = %d, %d, not %d", steps, c, code, want[rest])
		}
		rest = (180 - steps + 720000) % 720
		if s, code := impl.SineOf(steps); code != impl.ErrNone || s != want[rest] {
			t.Fatalf("SineOf(%d) = %d, %d, not %d", steps, s, code, want[rest])
		}
	}
}

// turned has the results of all functions of steps, for two radii.
type turned struct{ cosine, sine, x, y, square, distance, rest int64 }

func turnBy(t *testing.T, a int64, b int64, steps int64) turned {
	t.Helper()
	var r turned
	var codes [6]int64
	r.cosine, codes[0] = impl.CosineOf(steps)
	r.sine, codes[1] = impl.SineOf(steps)
	r.x, r.y, codes[2] = impl.PointOn(a, steps)
	r.square, codes[3] = impl.SquareBetween(a, b, steps)
	r.distance, codes[4] = impl.DistanceBetween(a, b, steps)
	_, r.rest, codes[5] = impl.TurnsOf(steps)
	if codes != [6]int64{} {
		t.Fatalf("codes %d for %d, %d, %d", codes, a, b, steps)
	}
	return r
}

func TestFullTurnChangesNothing(t *testing.T) {
	for _, radii := range [][2]int64{{300, 400}, {10000, 10000}, {6220, 450}, {10000, 5000}, {0, 7}} {
		a, b := radii[0], radii[1]
		for steps := int64(-720); steps < 720; steps++ {
			first := turnBy(t, a, b, steps)
			for _, turns := range []int64{1, 2, -1, -7, 137, -137} {
				if after := turnBy(t, a, b, steps+720*turns); after != first {
					t.Fatalf("%d turns after %d steps: %d, not %d", turns, steps, after, first)
				}
			}
		}
		for _, steps := range []int64{-100000, -99999, -99441, -99440} {
			if first, after := turnBy(t, a, b, steps), turnBy(t, a, b, steps+720*277); after != first {
				t.Fatalf("from the least to the greatest steps, at %d: %d, not %d", steps, after, first)
			}
		}
	}
}

func TestTheOtherWayRound(t *testing.T) {
	for _, steps := range someSteps() {
		there, back := turnBy(t, 6220, 450, steps), turnBy(t, 6220, 450, -steps)
		if there.cosine != back.cosine || there.sine != -back.sine || there.x != back.x || there.square != back.square || there.distance != back.distance {
			t.Fatalf("%d steps: %d, and the other way round: %d", steps, there, back)
		}
	}
}

func TestCosineErrors(t *testing.T) {
	for _, steps := range wrongSteps() {
		if c, code := impl.CosineOf(steps); code != impl.ErrRange || c != 0 {
			t.Errorf("CosineOf(%d) = %d, %d", steps, c, code)
		}
		if s, code := impl.SineOf(steps); code != impl.ErrRange || s != 0 {
			t.Errorf("SineOf(%d) = %d, %d", steps, s, code)
		}
	}
}

func TestPointOn(t *testing.T) {
	cases := []struct{ radius, steps, x, y int64 }{
		{0, 0, 0, 0},
		{0, 77, 0, 0},
		{100, 0, 100, 0},
		{100, 180, 0, 100},
		{100, 360, -100, 0},
		{100, 540, 0, -100},
		{100, 720, 100, 0},
		{100, -180, 0, -100},
		{1, 60, 1, 0},
		{1, 119, 1, 1},
		{1, 120, 0, 1},
		{1, 239, 0, 1},
		{1, 240, 0, 1},
		{1, 241, -1, 1},
		{1, 300, -1, 0},
		{10, 90, 7, 7},
		{10, 270, -7, 7},
		{10, 450, -7, -7},
		{10, 630, 7, -7},
		{10000, 1, 10000, 87},
		{10000, -1, 10000, -87},
		{10000, 359, -10000, 87},
		{10000, 361, -10000, -87},
		{10000, 60, 8660, 5000},
		{9999, 120, 4999, 8659},
		{10000, 240, -5000, 8660},
		{10000, 100000, 7660, -6428},
		{10000, -100000, 7660, 6428},
		{622, -35, 593, -187},
		{3, 200, -1, 3},
		{7, -250, -4, -6},
	}
	for _, c := range cases {
		if x, y, code := impl.PointOn(c.radius, c.steps); code != impl.ErrNone || x != c.x || y != c.y {
			t.Errorf("PointOn(%d, %d) = %d, %d, %d, not %d, %d", c.radius, c.steps, x, y, code, c.x, c.y)
		}
	}
}

func TestPointsAreNearest(t *testing.T) {
	cosines := expectedCosines()
	for _, radius := range someRadii() {
		for _, steps := range someSteps() {
			wantX := nearestOfTwo(productOf(radius, cosines[(steps+720000)%720]), 1000000000)
			wantY := nearestOfTwo(productOf(radius, cosines[(180-steps+720000)%720]), 1000000000)
			if x, y, code := impl.PointOn(radius, steps); code != impl.ErrNone || x != wantX || y != wantY {
				t.Fatalf("PointOn(%d, %d) = %d, %d, %d, not %d, %d", radius, steps, x, y, code, wantX, wantY)
			}
		}
	}
}

func TestPointOnErrors(t *testing.T) {
	check := func(radius int64, steps int64) {
		t.Helper()
		if x, y, code := impl.PointOn(radius, steps); code != impl.ErrRange || x != 0 || y != 0 {
			t.Errorf("PointOn(%d, %d) = %d, %d, %d", radius, steps, x, y, code)
		}
	}
	for _, steps := range wrongSteps() {
		check(0, steps)
		check(10000, steps)
		check(-1, steps)
	}
	for _, radius := range wrongRadii() {
		check(radius, 0)
		check(radius, 180)
		check(radius, -100000)
	}
}

// betweenCase is a call of SquareBetween and of DistanceBetween, with their results.
type betweenCase struct{ a, b, steps, square, distance int64 }

func checkBetween(t *testing.T, cases []betweenCase) {
	t.Helper()
	for _, c := range cases {
		for _, radii := range [][2]int64{{c.a, c.b}, {c.b, c.a}} {
			if square, code := impl.SquareBetween(radii[0], radii[1], c.steps); code != impl.ErrNone || square != c.square {
				t.Errorf("SquareBetween(%d, %d, %d) = %d, %d, not %d", radii[0], radii[1], c.steps, square, code, c.square)
			}
			if distance, code := impl.DistanceBetween(radii[0], radii[1], c.steps); code != impl.ErrNone || distance != c.distance {
				t.Errorf("DistanceBetween(%d, %d, %d) = %d, %d, not %d", radii[0], radii[1], c.steps, distance, code, c.distance)
			}
		}
	}
}

func TestSquareBetweenAndDistanceBetween(t *testing.T) {
	checkBetween(t, []betweenCase{
		{300, 400, 180, 250000, 500},
		{300, 400, -180, 250000, 500},
		{300, 400, 0, 10000, 100},
		{300, 400, 720, 10000, 100},
		{300, 400, 360, 490000, 700},
		{300, 400, -360, 490000, 700},
		{6220, 450, 120, 36091903, 6008},
		{6220, 450, -120, 36091903, 6008},
		{6220, 450, 600, 36091903, 6008},
		{3, 4, 60, 4, 2},
		{3, 4, 300, 46, 7},
		{1, 1, 120, 1, 1},
		{1, 1, 152, 2, 1},
		{1, 1, 208, 2, 1},
		{1, 1, 209, 3, 2},
		{0, 0, 0, 0, 0},
		{0, 0, 77, 0, 0},
		{0, 5, 60, 25, 5},
		{0, 10000, 300, 100000000, 10000},
		{7, 7, 0, 0, 0},
		{7, 7, 720, 0, 0},
		{7, 7, 360, 196, 14},
		{10000, 10000, 0, 0, 0},
		{10000, 10000, 1, 7615, 87},
		{10000, 10000, 180, 200000000, 14142},
		{10000, 10000, 359, 399992385, 20000},
		{10000, 10000, 360, 400000000, 20000},
		{10000, 10000, 100000, 46791166, 6840},
		{10000, 10000, -100000, 46791166, 6840},
	})
}

// In these cases the product divided by Unit ends in a half: 99984769.5 in the first one,
// -99984769.5 in the third.
func TestHalvesAreRoundedUp(t *testing.T) {
	checkBetween(t, []betweenCase{
		{10000, 5000, 2, 25015230, 5002},
		{10000, 5000, -2, 25015230, 5002},
		{10000, 5000, 358, 224984769, 14999},
		{10000, 5000, 362, 224984769, 14999},
		{10000, 250, 55, 95627446, 9779},
		{10000, 250, 305, 104497553, 10222},
		{9375, 1250, 67, 69908930, 8361},
		{9375, 1250, 293, 108997319, 10440},
		{10000, 2500, 28, 57735215, 7598},
		{10000, 2500, 332, 154764784, 12440},
	})
}

// At a quarter turn the square is the sum of both squares, so that the distances beside each half
// can be chosen: the square root of 2 is below 1.5, that of 13 above 3.5, that of 20 below 4.5.
func TestDistancesAreRounded(t *testing.T) {
	checkBetween(t, []betweenCase{
		{1, 1, 180, 2, 1},
		{2, 2, 180, 8, 3},
		{1, 2, 180, 5, 2},
		{3, 2, 540, 13, 4},
		{4, 2, 540, 20, 4},
		{11, 10, -180, 221, 15},
		{9, 3, 180, 90, 9},
		{9999, 1, 180, 99980002, 9999},
		{9999, 99, 180, 99989802, 9999},
		{9999, 100, 180, 99990001, 10000},
	})
}

func TestSquaresAndDistancesFollow(t *testing.T) {
	cosines := expectedCosines()
	for _, a := range someRadii() {
		for _, b := range someRadii() {
			for steps := int64(-361); steps <= 721; steps++ {
				want := expectedSquare(cosines, a, b, steps)
				if square, code := impl.SquareBetween(a, b, steps); code != impl.ErrNone || square != want {
					t.Fatalf("SquareBetween(%d, %d, %d) = %d, %d, not %d", a, b, steps, square, code, want)
				}
				if distance, code := impl.DistanceBetween(a, b, steps); code != impl.ErrNone || !isNearestRoot(distance, want) {
					t.Fatalf("DistanceBetween(%d, %d, %d) = %d, %d for the square %d", a, b, steps, distance, code, want)
				}
			}
		}
	}
}

func TestDistancesOfAllSmallSquares(t *testing.T) {
	for a := int64(0); a <= 150; a++ {
		for b := int64(0); b <= a; b++ {
			if distance, code := impl.DistanceBetween(a, b, 180); code != impl.ErrNone || !isNearestRoot(distance, a*a+b*b) {
				t.Fatalf("DistanceBetween(%d, %d, 180) = %d, %d", a, b, distance, code)
			}
		}
	}
}

func TestBetweenErrors(t *testing.T) {
	check := func(a int64, b int64, steps int64) {
		t.Helper()
		if square, code := impl.SquareBetween(a, b, steps); code != impl.ErrRange || square != 0 {
			t.Errorf("SquareBetween(%d, %d, %d) = %d, %d", a, b, steps, square, code)
		}
		if distance, code := impl.DistanceBetween(a, b, steps); code != impl.ErrRange || distance != 0 {
			t.Errorf("DistanceBetween(%d, %d, %d) = %d, %d", a, b, steps, distance, code)
		}
	}
	for _, steps := range wrongSteps() {
		check(0, 0, steps)
		check(300, 400, steps)
		check(10000, 10000, steps)
	}
	for _, radius := range wrongRadii() {
		for _, steps := range append(wrongSteps(), 0, 180, 360, -100000, 100000) {
			check(radius, 400, steps)
			check(300, radius, steps)
			check(radius, radius, steps)
		}
	}
}

func TestTurnsOf(t *testing.T) {
	cases := []struct{ steps, turns, rest int64 }{
		{0, 0, 0}, {1, 0, 1}, {359, 0, 359}, {360, 0, 360}, {719, 0, 719},
		{720, 1, 0}, {721, 1, 1}, {1439, 1, 719}, {1440, 2, 0},
		{-1, -1, 719}, {-180, -1, 540}, {-719, -1, 1}, {-720, -1, 0}, {-721, -2, 719}, {-1440, -2, 0},
		{99999, 138, 639}, {100000, 138, 640}, {-99999, -139, 81}, {-100000, -139, 80}, {-99360, -138, 0}, {99360, 138, 0},
	}
	for _, c := range cases {
		if turns, rest, code := impl.TurnsOf(c.steps); code != impl.ErrNone || turns != c.turns || rest != c.rest {
			t.Errorf("TurnsOf(%d) = %d, %d, %d, not %d, %d", c.steps, turns, rest, code, c.turns, c.rest)
		}
	}
	for steps := int64(-100000); steps <= 100000; steps++ {
		turns, rest, code := impl.TurnsOf(steps)
		if code != impl.ErrNone || rest < 0 || rest > 719 || 720*turns+rest != steps {
			t.Fatalf("TurnsOf(%d) = %d, %d, %d", steps, turns, rest, code)
		}
	}
	for _, steps := range wrongSteps() {
		if turns, rest, code := impl.TurnsOf(steps); code != impl.ErrRange || turns != 0 || rest != 0 {
			t.Errorf("TurnsOf(%d) = %d, %d, %d", steps, turns, rest, code)
		}
	}
}

func TestStepsFor(t *testing.T) {
	cases := []struct{ a, b, distance, steps, code int64 }{
		{300, 400, 500, 180, impl.ErrNone},
		{300, 400, 0, 0, impl.ErrNone},
		{300, 400, 100, 0, impl.ErrNone},
		{300, 400, 101, 4, impl.ErrNone},
		{300, 400, 499, 180, impl.ErrNone},
		{300, 400, 501, 181, impl.ErrNone},
		{300, 400, 699, 345, impl.ErrNone},
		{300, 400, 700, 352, impl.ErrNone},
		{300, 400, 701, 0, impl.ErrNotFound},
		{0, 0, 0, 0, impl.ErrNone},
		{0, 0, 1, 0, impl.ErrNotFound},
		{0, 7, 7, 0, impl.ErrNone},
		{0, 7, 8, 0, impl.ErrNotFound},
		{7, 7, 0, 0, impl.ErrNone},
		{7, 7, 1, 12, impl.ErrNone},
		{7, 7, 14, 300, impl.ErrNone},
		{7, 7, 15, 0, impl.ErrNotFound},
		{1, 1, 1, 83, impl.ErrNone},
		{1, 1, 2, 209, impl.ErrNone},
		{6220, 450, 5770, 0, impl.ErrNone},
		{6220, 450, 5771, 6, impl.ErrNone},
		{6220, 450, 6000, 118, impl.ErrNone},
		{6220, 450, 6670, 355, impl.ErrNone},
		{6220, 450, 6671, 0, impl.ErrNotFound},
		{10000, 10000, 0, 0, impl.ErrNone},
		{10000, 10000, 1, 1, impl.ErrNone},
		{10000, 10000, 87, 1, impl.ErrNone},
		{10000, 10000, 88, 2, impl.ErrNone},
		{10000, 10000, 14142, 180, impl.ErrNone},
		{10000, 10000, 14143, 181, impl.ErrNone},
		{10000, 10000, 19999, 358, impl.ErrNone},
		{10000, 10000, 20000, 359, impl.ErrNone},
		{10000, 9999, 19999, 359, impl.ErrNone},
		{10000, 9999, 20000, 0, impl.ErrNotFound},
		{0, 10000, 10000, 0, impl.ErrNone},
		{0, 10000, 10001, 0, impl.ErrNotFound},
		{0, 0, 20000, 0, impl.ErrNotFound},
	}
	for _, c := range cases {
		if steps, code := impl.StepsFor(c.a, c.b, c.distance); code != c.code || steps != c.steps {
			t.Errorf("StepsFor(%d, %d, %d) = %d, %d, not %d, %d", c.a, c.b, c.distance, steps, code, c.steps, c.code)
		}
		if steps, code := impl.StepsFor(c.b, c.a, c.distance); code != c.code || steps != c.steps {
			t.Errorf("StepsFor(%d, %d, %d) = %d, %d, not %d, %d", c.b, c.a, c.distance, steps, code, c.steps, c.code)
		}
	}
}

// Equal radii reach their sum at a half turn at the latest, for every radius.
func TestStepsForTheSumOfRadii(t *testing.T) {
	for radius := int64(1); radius <= 10000; radius++ {
		steps, code := impl.StepsFor(radius, radius, 2*radius)
		before, _ := impl.DistanceBetween(radius, radius, steps-1)
		at, _ := impl.DistanceBetween(radius, radius, steps)
		if code != impl.ErrNone || steps < 1 || steps > 360 || at != 2*radius || before >= 2*radius {
			t.Fatalf("StepsFor(%d, %d, %d) = %d, %d", radius, radius, 2*radius, steps, code)
		}
		if steps, code := impl.StepsFor(radius, radius, 2*radius+1); code == impl.ErrNone || steps != 0 {
			t.Fatalf("StepsFor(%d, %d, %d) = %d, %d", radius, radius, 2*radius+1, steps, code)
		}
	}
}

func TestStepsAreLeast(t *testing.T) {
	cosines := expectedCosines()
	for _, radii := range [][2]int64{{0, 0}, {0, 9}, {1, 1}, {3, 4}, {25, 25}, {40, 7}, {300, 400}} {
		a, b := radii[0], radii[1]
		for distance := int64(0); distance <= a+b+3; distance++ {
			want, wantCode := int64(0), int64(impl.ErrNotFound)
			for steps := int64(360); steps >= 0; steps-- {
				// The nearest integer to a root is at least distance if the root is at least
				// distance - 1/2.
				if distance == 0 || 4*expectedSquare(cosines, a, b, steps) >= (2*distance-1)*(2*distance-1) {
					want, wantCode = steps, impl.ErrNone
				}
			}
			if steps, code := impl.StepsFor(a, b, distance); code != wantCode || steps != want {
				t.Fatalf("StepsFor(%d, %d, %d) = %d, %d, not %d, %d", a, b, distance, steps, code, want, wantCode)
			}
		}
	}
}

func TestStepsForErrors(t *testing.T) {
	check := func(a int64, b int64, distance int64) {
		t.Helper()
		if steps, code := impl.StepsFor(a, b, distance); code != impl.ErrRange || steps != 0 {
			t.Errorf("StepsFor(%d, %d, %d) = %d, %d", a, b, distance, steps, code)
		}
	}
	wrongDistances := []int64{-1, 20001, -20000, 100000, math.MinInt64, math.MaxInt64}
	for _, distance := range wrongDistances {
		check(0, 0, distance)
		check(300, 400, distance)
		check(10000, 10000, distance)
	}
	for _, radius := range wrongRadii() {
		for _, distance := range append(wrongDistances, 0, 1, 500, 20000) {
			check(radius, 400, distance)
			check(300, radius, distance)
			check(radius, radius, distance)
		}
	}
}
