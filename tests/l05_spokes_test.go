package tests

import (
	"math"
	"slices"
	"testing"

	"loop.example/g01050/impl"
)

// spokesCase is a wheel with the squares and the lengths of its left and its right side.
type spokesCase struct {
	wheel                                            impl.Wheel
	leftSquare, rightSquare, leftLength, rightLength int64
}

func spokesCases() []spokesCase {
	return []spokesCase{
		{wheel(hub(32, 440, 450, 350, 200), rim(32, 5900, 0), 3), 33506711, 33140455, 2882, 2866},
		{wheel(hub(36, 380, 520, 370, 160), rim(36, 6220, -25), 3), 36945303, 35861304, 3027, 2982},
		{wheel(hub(48, 1200, 200, 500, 0), rim(48, 7000, 100), 11), 68107553, 51784592, 4114, 3586},
		{wheel(hub(12, 200, 1200, 0, 500), rim(12, 2000, -100), 0), 3280000, 2080000, 894, 709},
		{wheel(hub(24, 300, 400, 10, 20), rim(24, 3000, -7), 4), 9990035, 10362915, 1568, 1598},
		{wheel(hub(48, 1200, 1200, 500, 500), rim(48, 7000, -100), 11), 67307553, 68107553, 4090, 4114},
		{wheel(hub(12, 1200, 1200, 0, 0), rim(12, 2000, 0), 0), 640000, 640000, 388, 388},
		// Half of the square root is 900.5 on the left, and less than that on the right.
		{wheel(hub(16, 499, 500, 0, 30), rim(16, 2300, 0), 0), 1801 * 1801, 1801*1801 - 1, 889, 888},
		{wheel(hub(16, 500, 501, 30, 0), rim(16, 2301, 0), 0), 3247201, 1800 * 1800, 889, 888},
	}
}

// expectedSquareOfSpoke follows the document with the cosines of chapter 3.
func expectedSquareOfSpoke(cosines []int64, w impl.Wheel, right bool) int64 {
	flange, off := w.Hub.Left, w.Hub.LeftOff+w.Rim.Offset
	if right {
		flange, off = w.Hub.Right, w.Hub.RightOff-w.Rim.Offset
	}
	return expectedSquare(cosines, w.Rim.Diameter, flange, 1440*w.Crosses/w.Hub.Holes) + 4*off*off
}

// isLengthFor reports whether no integer is nearer to half of the square root of a square than
// the length and the radius of the hole are together, and no greater one is as near.
func isLengthFor(length int64, square int64) bool {
	n := length + 12
	return (2*n-1)*(2*n-1) <= square && square < (2*n+1)*(2*n+1)
}

func withDiameter(w impl.Wheel, diameter int64) impl.Wheel {
	w.Rim.Diameter = diameter
	return w
}

func withCrosses(w impl.Wheel, crosses int64) impl.Wheel {
	w.Crosses = crosses
	return w
}

// lengthOf returns the length of a spoke of a wheel that is as described.
func lengthOf(t *testing.T, w impl.Wheel, right bool) int64 {
	t.Helper()
	length, code := impl.SpokeLength(w, right)
	if code != impl.ErrNone {
		t.Fatalf("SpokeLength(%v, %v) = %d, %d", w, right, length, code)
	}
	return length
}

// manyLengths returns lengths that increase, of which a stock may have 30.
func manyLengths(count int) []int64 {
	var lengths []int64
	for i := range count {
		lengths = append(lengths, 2500+15*int64(i))
	}
	return lengths
}

func wrongStocks() [][]int64 {
	return [][]int64{
		manyLengths(31), manyLengths(60), make([]int64, 31),
		{-1}, {5001}, {-1, 2788}, {2788, 5001}, {math.MinInt64}, {math.MaxInt64}, {0, math.MaxInt64}, {math.MinInt64, 2788},
		{2788, 2788}, {0, 0}, {5000, 5000}, {2760, 2780, 2780, 2800}, {2800, 2780}, {2760, 2780, 2779}, {1, 0}, {2788, 2800, 2780, 2810}, {2788, -1}, {1 << 32, 1<<32 + 1},
	}
}

// wrongLengths returns numbers beyond 0..5000.
func wrongLengths() []int64 {
	return []int64{-1, 5001, -2788, 50000, 1<<32 + 2788, math.MinInt64, math.MinInt64 + 2788, math.MaxInt64}
}

func TestSquaresAndLengthsOfSpokes(t *testing.T) {
	check := func(w impl.Wheel, right bool, wantSquare int64, wantLength int64) {
		t.Helper()
		if square, code := impl.SquareOfSpoke(w, right); code != impl.ErrNone || square != wantSquare {
			t.Errorf("SquareOfSpoke(%v, %v) = %d, %d, not %d", w, right, square, code, wantSquare)
		}
		if length, code := impl.SpokeLength(w, right); code != impl.ErrNone || length != wantLength {
			t.Errorf("SpokeLength(%v, %v) = %d, %d, not %d", w, right, length, code, wantLength)
		}
	}
	for _, c := range spokesCases() {
		check(c.wheel, false, c.leftSquare, c.leftLength)
		check(c.wheel, true, c.rightSquare, c.rightLength)
	}
	for _, w := range wrongWheels() {
		for _, right := range []bool{false, true} {
			if square, code := impl.SquareOfSpoke(w, right); code != impl.ErrInvalid || square != 0 {
				t.Errorf("SquareOfSpoke(%v, %v) = %d, %d", w, right, square, code)
			}
			if length, code := impl.SpokeLength(w, right); code != impl.ErrInvalid || length != 0 {
				t.Errorf("SpokeLength(%v, %v) = %d, %d", w, right, length, code)
			}
		}
	}
}

// With no off and no crosses the square root is the Diameter minus that of the flange.
func TestHalvesOfLengthsAreRoundedUp(t *testing.T) {
	for diameter := int64(2000); diameter <= 7000; diameter++ {
		w := wheel(hub(40, 800, 801, 0, 0), rim(40, diameter, 0), 0)
		if left, want := lengthOf(t, w, false), (diameter-799)/2-12; left != want {
			t.Fatalf("SpokeLength(%v, false) = %d, not %d", w, left, want)
		}
		if right, want := lengthOf(t, w, true), (diameter-800)/2-12; right != want {
			t.Fatalf("SpokeLength(%v, true) = %d, not %d", w, right, want)
		}
	}
}

func TestSquaresAndLengthsFollow(t *testing.T) {
	cosines := expectedCosines()
	check := func(w impl.Wheel) {
		t.Helper()
		for _, right := range []bool{false, true} {
			want := expectedSquareOfSpoke(cosines, w, right)
			if square, code := impl.SquareOfSpoke(w, right); code != impl.ErrNone || square != want {
				t.Fatalf("SquareOfSpoke(%v, %v) = %d, %d, not %d", w, right, square, code, want)
			}
			if length := lengthOf(t, w, right); !isLengthFor(length, want) {
				t.Fatalf("SpokeLength(%v, %v) = %d for the square %d", w, right, length, want)
			}
		}
	}
	for _, w := range rightWheels() {
		for crosses := int64(0); crosses < w.Hub.Holes/4; crosses++ {
			check(withCrosses(w, crosses))
		}
	}
	for n := int64(0); n <= 200; n++ {
		check(wheel(hub(20, 200+5*n, 1200-3*n, 2*n, 500-n), rim(20, 2000+25*n, n-100), n%5))
	}
}

func TestMirroringExchangesTheLengths(t *testing.T) {
	wheels := rightWheels()
	for _, c := range spokesCases() {
		wheels = append(wheels, c.wheel)
	}
	for _, w := range wheels {
		mirrored, _ := impl.MirrorWheel(w)
		for _, right := range []bool{false, true} {
			if there, back := lengthOf(t, w, right), lengthOf(t, mirrored, !right); there != back {
				t.Errorf("SpokeLength(%v, %v) = %d, but %d in the mirror", w, right, there, back)
			}
			there, _ := impl.SquareOfSpoke(w, right)
			if back, code := impl.SquareOfSpoke(mirrored, !right); code != impl.ErrNone || there != back {
				t.Errorf("SquareOfSpoke(%v, %v) = %d, but %d, %d in the mirror", w, right, there, back, code)
			}
		}
		there, _ := impl.SpokeCounts(w)
		if back, code := impl.SpokeCounts(mirrored); code != impl.ErrNone || !slices.EqualFunc(there, back, slices.Equal[[]int64]) {
			t.Errorf("SpokeCounts(%v) = %v, but %v, %d in the mirror", w, there, back, code)
		}
	}
}

func TestSpokeCounts(t *testing.T) {
	cases := []struct {
		wheel impl.Wheel
		want  [][]int64
	}{
		{wheel(hub(32, 440, 450, 350, 200), rim(32, 5900, 0), 3), [][]int64{{2866, 16}, {2882, 16}}},
		{wheel(hub(32, 450, 440, 200, 350), rim(32, 5900, 0), 3), [][]int64{{2866, 16}, {2882, 16}}},
		{wheel(hub(24, 300, 400, 10, 20), rim(24, 3000, -7), 4), [][]int64{{1568, 12}, {1598, 12}}},
		{wheel(hub(12, 200, 1200, 0, 500), rim(12, 2000, -100), 0), [][]int64{{709, 6}, {894, 6}}},
		{wheel(hub(48, 1200, 200, 500, 0), rim(48, 7000, 100), 11), [][]int64{{3586, 24}, {4114, 24}}},
		{wheel(hub(12, 1200, 1200, 0, 0), rim(12, 2000, 0), 0), [][]int64{{388, 12}}},
		{wheel(hub(36, 400, 400, 300, 300), rim(36, 6000, 0), 0), [][]int64{{2804, 36}}},
		// Equal flanges with different off, -20 and 120, then with 20 and 20, then with 20 and -20.
		{wheel(hub(36, 400, 400, 30, 70), rim(36, 6000, -50), 0), [][]int64{{2788, 18}, {2791, 18}}},
		{wheel(hub(20, 300, 300, 0, 40), rim(20, 3000, 20), 2), [][]int64{{1449, 20}}},
		{wheel(hub(20, 300, 300, 0, 0), rim(20, 3000, 20), 2), [][]int64{{1449, 20}}},
		// Squares that differ, with one length.
		{wheel(hub(16, 300, 300, 0, 1), rim(16, 3000, 0), 0), [][]int64{{1338, 16}}},
		// Lengths that differ by one.
		{wheel(hub(16, 499, 500, 0, 30), rim(16, 2300, 0), 0), [][]int64{{888, 8}, {889, 8}}},
	}
	for _, c := range cases {
		if counts, code := impl.SpokeCounts(c.wheel); code != impl.ErrNone || !slices.EqualFunc(counts, c.want, slices.Equal[[]int64]) {
			t.Errorf("SpokeCounts(%v) = %v, %d, not %v", c.wheel, counts, code, c.want)
		}
	}
	for _, w := range wrongWheels() {
		if counts, code := impl.SpokeCounts(w); code != impl.ErrInvalid || len(counts) != 0 {
			t.Errorf("SpokeCounts(%v) = %v, %d", w, counts, code)
		}
	}
}

func TestSpokeCountsFollowTheLengths(t *testing.T) {
	for _, w := range rightWheels() {
		left, right := lengthOf(t, w, false), lengthOf(t, w, true)
		counts, code := impl.SpokeCounts(w)
		want := [][]int64{{min(left, right), w.Hub.Holes / 2}, {max(left, right), w.Hub.Holes / 2}}
		if left == right {
			want = [][]int64{{left, w.Hub.Holes}}
		}
		if code != impl.ErrNone || !slices.EqualFunc(counts, want, slices.Equal[[]int64]) {
			t.Errorf("SpokeCounts(%v) = %v, %d, not %v", w, counts, code, want)
		}
	}
}

func TestRowsOfSpokeCountsAreNew(t *testing.T) {
	w := wheel(hub(32, 440, 450, 350, 200), rim(32, 5900, 0), 3)
	first, _ := impl.SpokeCounts(w)
	second, _ := impl.SpokeCounts(w)
	_ = append(first[0], -1, -2)
	if first[1][0] != 2882 || first[1][1] != 16 {
		t.Errorf("the rows share memory: %v", first)
	}
	first[0][0], first[1] = 0, nil
	if !slices.EqualFunc(second, [][]int64{{2866, 16}, {2882, 16}}, slices.Equal[[]int64]) {
		t.Errorf("two results share memory: %v", second)
	}
}

func TestLengthRange(t *testing.T) {
	road := wheel(hub(32, 440, 450, 350, 200), rim(32, 5900, 0), 3)
	steep := wheel(hub(12, 1200, 200, 3, 4), rim(12, 2000, 0), 2)
	cases := []struct {
		wheel     impl.Wheel
		tolerance int64
		left      impl.Interval
		right     impl.Interval
	}{
		{road, 0, interval(2882, 2882), interval(2866, 2866)},
		{road, 1, interval(2882, 2883), interval(2866, 2867)},
		{road, 2, interval(2881, 2883), interval(2865, 2867)},
		{road, 19, interval(2873, 2892), interval(2857, 2876)},
		{road, 20, interval(2872, 2892), interval(2856, 2876)},
		{wheel(hub(24, 300, 400, 10, 20), rim(24, 3000, -7), 4), 1, interval(1568, 1569), interval(1597, 1598)},
		// Diameters to the limits.
		{withDiameter(steep, 2000), 0, interval(1388, 1388), interval(1042, 1042)},
		{withDiameter(steep, 2001), 1, interval(1388, 1389), interval(1042, 1043)},
		{withDiameter(steep, 2020), 20, interval(1388, 1407), interval(1042, 1062)},
		{withDiameter(steep, 7000), 0, interval(3823, 3823), interval(3539, 3539)},
		{withDiameter(steep, 6999), 1, interval(3822, 3823), interval(3538, 3539)},
		{withDiameter(steep, 6980), 20, interval(3804, 3823), interval(3519, 3539)},
	}
	for _, c := range cases {
		if lengths, code := impl.LengthRange(c.wheel, false, c.tolerance); code != impl.ErrNone || lengths != c.left {
			t.Errorf("LengthRange(%v, false, %d) = %v, %d, not %v", c.wheel, c.tolerance, lengths, code, c.left)
		}
		if lengths, code := impl.LengthRange(c.wheel, true, c.tolerance); code != impl.ErrNone || lengths != c.right {
			t.Errorf("LengthRange(%v, true, %d) = %v, %d, not %v", c.wheel, c.tolerance, lengths, code, c.right)
		}
	}
}

func TestLengthRangesHaveAllLengths(t *testing.T) {
	for _, w := range rightWheels() {
		for _, tolerance := range []int64{0, 1, 3, 20} {
			for _, right := range []bool{false, true} {
				want, wantCode := impl.Interval{}, int64(impl.ErrState)
				if w.Rim.Diameter-tolerance >= 2000 && w.Rim.Diameter+tolerance <= 7000 {
					wantCode = impl.ErrNone
					length := lengthOf(t, w, right)
					want = interval(length, length)
					for diameter := w.Rim.Diameter - tolerance; diameter <= w.Rim.Diameter+tolerance; diameter++ {
						length := lengthOf(t, withDiameter(w, diameter), right)
						want = interval(min(want.Low, length), max(want.High, length))
					}
				}
				if lengths, code := impl.LengthRange(w, right, tolerance); code != wantCode || lengths != want {
					t.Errorf("LengthRange(%v, %v, %d) = %v, %d, not %v, %d", w, right, tolerance, lengths, code, want, wantCode)
				}
			}
		}
	}
}

func TestLengthRangeErrors(t *testing.T) {
	check := func(w impl.Wheel, tolerance int64, want int64) {
		t.Helper()
		for _, right := range []bool{false, true} {
			if lengths, code := impl.LengthRange(w, right, tolerance); code != want || lengths != (impl.Interval{}) {
				t.Errorf("LengthRange(%v, %v, %d) = %v, %d, not %d", w, right, tolerance, lengths, code, want)
			}
		}
	}
	wrongTolerances := []int64{-1, 21, -20, 100, 1 << 32, math.MinInt64, math.MaxInt64}
	for _, w := range wrongWheels() {
		for _, tolerance := range append(wrongTolerances, 0, 20) {
			check(w, tolerance, impl.ErrInvalid)
		}
	}
	right := wheel(hub(32, 440, 450, 350, 200), rim(32, 5900, 0), 3)
	for _, tolerance := range wrongTolerances {
		// With some of these, Diameters would be beyond their range too.
		for _, diameter := range []int64{2000, 5900, 7000} {
			check(withDiameter(right, diameter), tolerance, impl.ErrRange)
		}
	}
	for tolerance := int64(1); tolerance <= 20; tolerance++ {
		check(withDiameter(right, 2000), tolerance, impl.ErrState)
		check(withDiameter(right, 2000+tolerance-1), tolerance, impl.ErrState)
		check(withDiameter(right, 7000-tolerance+1), tolerance, impl.ErrState)
		check(withDiameter(right, 7000), tolerance, impl.ErrState)
	}
}

func TestChooseSpoke(t *testing.T) {
	cases := []struct {
		stock              []int64
		length, want, code int64
	}{
		{[]int64{2760, 2780, 2800}, 2788, 2780, impl.ErrNone},
		{[]int64{2760, 2780, 2800}, 2790, 2800, impl.ErrNone},
		{[]int64{2760, 2780, 2800}, 2789, 2780, impl.ErrNone},
		{[]int64{2788}, 2788, 2788, impl.ErrNone},
		// 10 and 11 greater, 20 and 21 less.
		{[]int64{2798}, 2788, 2798, impl.ErrNone},
		{[]int64{2799}, 2788, 0, impl.ErrNotFound},
		{[]int64{2768}, 2788, 2768, impl.ErrNone},
		{[]int64{2767}, 2788, 0, impl.ErrNotFound},
		{[]int64{2767, 2799}, 2788, 0, impl.ErrNotFound},
		{[]int64{2767, 2768, 2799}, 2788, 2768, impl.ErrNone},
		{[]int64{2768, 2788, 2798, 2799}, 2788, 2798, impl.ErrNone},
		{[]int64{2768, 2787, 2790, 2810}, 2788, 2790, impl.ErrNone},
		{nil, 2788, 0, impl.ErrNotFound},
		{[]int64{}, 0, 0, impl.ErrNotFound},
		// Lengths at the limits.
		{[]int64{0, 5000}, 0, 0, impl.ErrNone},
		{[]int64{0, 5000}, 20, 0, impl.ErrNone},
		{[]int64{0, 5000}, 21, 0, impl.ErrNotFound},
		{[]int64{0, 5000}, 4989, 0, impl.ErrNotFound},
		{[]int64{0, 5000}, 4990, 5000, impl.ErrNone},
		{[]int64{0, 5000}, 5000, 5000, impl.ErrNone},
		{[]int64{10}, 0, 10, impl.ErrNone},
		{[]int64{11}, 0, 0, impl.ErrNotFound},
		{[]int64{4980}, 5000, 4980, impl.ErrNone},
		{[]int64{4979}, 5000, 0, impl.ErrNotFound},
		// 30 lengths: 2500, 2515 .. 2935.
		{manyLengths(30), 2500, 2500, impl.ErrNone},
		{manyLengths(30), 2505, 2515, impl.ErrNone},
		{manyLengths(30), 2955, 2935, impl.ErrNone},
		{manyLengths(30), 2956, 0, impl.ErrNotFound},
		{manyLengths(30), 2489, 0, impl.ErrNotFound},
	}
	for _, c := range cases {
		before := slices.Clone(c.stock)
		if length, code := impl.ChooseSpoke(c.stock, c.length); code != c.code || length != c.want {
			t.Errorf("ChooseSpoke(%v, %d) = %d, %d, not %d, %d", c.stock, c.length, length, code, c.want, c.code)
		}
		if !slices.Equal(c.stock, before) {
			t.Errorf("ChooseSpoke has changed %v to %v", before, c.stock)
		}
	}
}

func TestSpokesThatAreChosenAreGreatest(t *testing.T) {
	stock := []int64{0, 1, 9, 10, 30, 31, 52, 75, 106, 138, 139, 140, 4900, 4921, 4953, 4979, 4999, 5000}
	for length := int64(0); length <= 5000; length++ {
		want, wantCode := int64(0), int64(impl.ErrNotFound)
		for _, n := range stock {
			if n <= length+10 && n >= length-20 {
				want, wantCode = n, impl.ErrNone
			}
		}
		if got, code := impl.ChooseSpoke(stock, length); code != wantCode || got != want {
			t.Fatalf("ChooseSpoke(%v, %d) = %d, %d, not %d, %d", stock, length, got, code, want, wantCode)
		}
	}
}

func TestChooseSpokeErrors(t *testing.T) {
	check := func(stock []int64, length int64, want int64) {
		t.Helper()
		if got, code := impl.ChooseSpoke(stock, length); code != want || got != 0 {
			t.Errorf("ChooseSpoke(%v, %d) = %d, %d, not %d", stock, length, got, code, want)
		}
	}
	for _, stock := range wrongStocks() {
		for _, length := range append(wrongLengths(), 0, 2788, 5000) {
			check(stock, length, impl.ErrInvalid)
		}
	}
	for _, length := range wrongLengths() {
		check(nil, length, impl.ErrRange)
		check([]int64{0, 2788, 5000}, length, impl.ErrRange)
		check(manyLengths(30), length, impl.ErrRange)
	}
}

func TestSpokesFor(t *testing.T) {
	// The lengths are 2882 and 2866, those of the narrow wheel 709 on the right and 894.
	road := wheel(hub(32, 440, 450, 350, 200), rim(32, 5900, 0), 3)
	narrow := wheel(hub(12, 200, 1200, 0, 500), rim(12, 2000, -100), 0)
	cases := []struct {
		wheel             impl.Wheel
		stock             []int64
		left, right, code int64
	}{
		{road, []int64{2860, 2880}, 2880, 2860, impl.ErrNone},
		{road, []int64{2870}, 2870, 2870, impl.ErrNone},
		{road, []int64{2862}, 2862, 2862, impl.ErrNone},
		{road, []int64{2861}, 0, 0, impl.ErrNotFound},
		{road, []int64{2876}, 2876, 2876, impl.ErrNone},
		{road, []int64{2877}, 0, 0, impl.ErrNotFound},
		{road, []int64{2846, 2892}, 2892, 2846, impl.ErrNone},
		{road, []int64{2845, 2892}, 0, 0, impl.ErrNotFound},
		{road, []int64{2846, 2893}, 0, 0, impl.ErrNotFound},
		{road, nil, 0, 0, impl.ErrNotFound},
		{road, []int64{0, 5000}, 0, 0, impl.ErrNotFound},
		{narrow, []int64{709, 894}, 894, 709, impl.ErrNone},
		{narrow, []int64{0, 700, 710, 719, 890, 904, 905, 5000}, 904, 719, impl.ErrNone},
		{narrow, []int64{709}, 0, 0, impl.ErrNotFound},
		{narrow, []int64{894}, 0, 0, impl.ErrNotFound},
		{wheel(hub(48, 1200, 200, 500, 0), rim(48, 7000, 100), 11), []int64{3570, 3590, 4110, 4130}, 4110, 3590, impl.ErrNone},
	}
	for _, c := range cases {
		before := slices.Clone(c.stock)
		if left, right, code := impl.SpokesFor(c.wheel, c.stock); code != c.code || left != c.left || right != c.right {
			t.Errorf("SpokesFor(%v, %v) = %d, %d, %d, not %d, %d, %d", c.wheel, c.stock, left, right, code, c.left, c.right, c.code)
		}
		if !slices.Equal(c.stock, before) {
			t.Errorf("SpokesFor has changed %v to %v", before, c.stock)
		}
	}
}

func TestSpokesForEveryWheel(t *testing.T) {
	stock := []int64{380, 700, 709, 890, 1500, 1700, 2288, 2400, 2550, 2650, 2700, 2725, 2750, 2775, 2800, 2825, 2850, 2875, 2900, 3000, 3100, 3387, 3400, 3586, 4000, 4110}
	for _, w := range rightWheels() {
		left, leftCode := impl.ChooseSpoke(stock, lengthOf(t, w, false))
		right, rightCode := impl.ChooseSpoke(stock, lengthOf(t, w, true))
		wantCode := int64(impl.ErrNone)
		if leftCode != impl.ErrNone || rightCode != impl.ErrNone {
			left, right, wantCode = 0, 0, impl.ErrNotFound
		}
		if a, b, code := impl.SpokesFor(w, stock); code != wantCode || a != left || b != right {
			t.Errorf("SpokesFor(%v, %v) = %d, %d, %d, not %d, %d, %d", w, stock, a, b, code, left, right, wantCode)
		}
	}
}

func TestSpokesForErrors(t *testing.T) {
	check := func(w impl.Wheel, stock []int64) {
		t.Helper()
		if left, right, code := impl.SpokesFor(w, stock); code != impl.ErrInvalid || left != 0 || right != 0 {
			t.Errorf("SpokesFor(%v, %v) = %d, %d, %d", w, stock, left, right, code)
		}
	}
	for _, w := range wrongWheels() {
		check(w, nil)
		check(w, manyLengths(30))
		check(w, []int64{2800, 2780})
	}
	for _, stock := range wrongStocks() {
		check(wheel(hub(32, 440, 450, 350, 200), rim(32, 5900, 0), 3), stock)
	}
}

func TestCrossesFor(t *testing.T) {
	// The lengths on the left are 2740, 2758, 2809, 2882, 2967, 3049, 3117 and 3162, on the right
	// 2720, 2739, 2791, 2866, 2953, 3038, 3108 and 3153.
	road := wheel(hub(32, 440, 450, 350, 200), rim(32, 5900, 0), 3)
	cases := []struct {
		wheel        impl.Wheel
		right        bool
		length, want int64
	}{
		{road, false, 0, 0},
		{road, false, 2740, 0},
		{road, false, 2748, 0},
		// Halfway between 2740 and 2758.
		{road, false, 2749, 0},
		{road, false, 2750, 1},
		{road, false, 2758, 1},
		{road, false, 2783, 1},
		{road, false, 2784, 2},
		{road, false, 2882, 3},
		{road, false, 3007, 4},
		// Halfway between 2967 and 3049.
		{road, false, 3008, 4},
		{road, false, 3009, 5},
		{road, false, 3083, 5},
		{road, false, 3162, 7},
		{road, false, 5000, 7},
		{road, true, 2749, 1},
		{road, true, 2729, 0},
		{road, true, 2730, 1},
		{road, true, 2765, 1},
		{road, true, 2766, 2},
		{road, true, 3073, 5},
		{road, true, 3074, 6},
		{road, true, 0, 0},
		{road, true, 5000, 7},
		// 709, 1046 and 1511 on the right.
		{wheel(hub(12, 200, 1200, 0, 500), rim(12, 2000, -100), 2), true, 877, 0},
		{wheel(hub(12, 200, 1200, 0, 500), rim(12, 2000, -100), 2), true, 878, 1},
		{wheel(hub(12, 200, 1200, 0, 500), rim(12, 2000, -100), 0), true, 1279, 2},
		{wheel(hub(12, 200, 1200, 0, 500), rim(12, 2000, -100), 0), true, 5000, 2},
		{wheel(hub(48, 1200, 200, 500, 0), rim(48, 7000, 100), 0), false, 5000, 11},
	}
	for _, c := range cases {
		for crosses := int64(0); crosses < c.wheel.Hub.Holes/4; crosses++ {
			w := withCrosses(c.wheel, crosses)
			if got, code := impl.CrossesFor(w, c.right, c.length); code != impl.ErrNone || got != c.want {
				t.Errorf("CrossesFor(%v, %v, %d) = %d, %d, not %d", w, c.right, c.length, got, code, c.want)
			}
		}
	}
}

func TestCrossesDifferLeast(t *testing.T) {
	for _, w := range rightWheels() {
		for _, right := range []bool{false, true} {
			var lengths []int64
			for crosses := int64(0); crosses < w.Hub.Holes/4; crosses++ {
				lengths = append(lengths, lengthOf(t, withCrosses(w, crosses), right))
			}
			for length := int64(0); length <= 5000; length += 47 {
				var differences []int64
				for _, n := range lengths {
					differences = append(differences, max(n-length, length-n))
				}
				want := int64(slices.Index(differences, slices.Min(differences)))
				if got, code := impl.CrossesFor(w, right, length); code != impl.ErrNone || got != want {
					t.Fatalf("CrossesFor(%v, %v, %d) = %d, %d, not %d", w, right, length, got, code, want)
				}
			}
		}
	}
}

func TestCrossesForErrors(t *testing.T) {
	check := func(w impl.Wheel, length int64, want int64) {
		t.Helper()
		for _, right := range []bool{false, true} {
			if got, code := impl.CrossesFor(w, right, length); code != want || got != 0 {
				t.Errorf("CrossesFor(%v, %v, %d) = %d, %d, not %d", w, right, length, got, code, want)
			}
		}
	}
	for _, w := range wrongWheels() {
		for _, length := range append(wrongLengths(), 0, 2788, 5000) {
			check(w, length, impl.ErrInvalid)
		}
	}
	for _, length := range wrongLengths() {
		check(wheel(hub(32, 440, 450, 350, 200), rim(32, 5900, 0), 3), length, impl.ErrRange)
	}
}

func TestTensionShare(t *testing.T) {
	cases := []struct {
		wheel       impl.Wheel
		share, code int64
	}{
		{wheel(hub(32, 400, 400, 100, 200), rim(32, 6000, 0), 0), 1996, impl.ErrNone},
		{wheel(hub(32, 440, 450, 350, 200), rim(32, 5900, 0), 3), 575, impl.ErrNone},
		{wheel(hub(36, 380, 520, 370, 160), rim(36, 6220, -25), 3), 544, impl.ErrNone},
		{wheel(hub(24, 300, 400, 10, 20), rim(24, 3000, -7), 4), 8831, impl.ErrNone},
		{wheel(hub(48, 1200, 1200, 500, 500), rim(48, 7000, -100), 11), 1491, impl.ErrNone},
		{wheel(hub(32, 440, 450, 350, 200), rim(32, 5900, -100), 7), 1197, impl.ErrNone},
		{wheel(hub(36, 200, 1200, 60, 60), rim(36, 2000, 0), 8), 692, impl.ErrNone},
		{wheel(hub(36, 1200, 200, 60, 60), rim(36, 2000, 0), 8), 1445, impl.ErrNone},
		// Shares of 937 and a half and 2187 and a half.
		{wheel(hub(16, 300, 300, 80, 75), rim(16, 3000, 0), 0), 938, impl.ErrNone},
		{wheel(hub(16, 300, 300, 160, 375), rim(16, 2060, 0), 0), 2188, impl.ErrNone},
		// Off is 1, 0 and below, on each side.
		{wheel(hub(32, 400, 400, 1, 1), rim(32, 6000, 0), 0), 1000, impl.ErrNone},
		{wheel(hub(32, 400, 400, 0, 1), rim(32, 6000, 0), 0), 0, impl.ErrState},
		{wheel(hub(32, 400, 400, 1, 0), rim(32, 6000, 0), 0), 0, impl.ErrState},
		{wheel(hub(32, 400, 400, 0, 0), rim(32, 6000, 0), 0), 0, impl.ErrState},
		{wheel(hub(20, 300, 300, 25, 25), rim(20, 3000, -24), 1), 48964, impl.ErrNone},
		{wheel(hub(20, 300, 300, 25, 25), rim(20, 3000, -25), 1), 0, impl.ErrState},
		{wheel(hub(20, 300, 300, 25, 25), rim(20, 3000, -26), 1), 0, impl.ErrState},
		{wheel(hub(20, 300, 300, 25, 25), rim(20, 3000, 24), 1), 20, impl.ErrNone},
		{wheel(hub(20, 300, 300, 25, 25), rim(20, 3000, 25), 1), 0, impl.ErrState},
		{wheel(hub(20, 300, 300, 25, 25), rim(20, 3000, 26), 1), 0, impl.ErrState},
		{wheel(hub(20, 300, 300, 0, 500), rim(20, 3000, -100), 1), 0, impl.ErrState},
		{wheel(hub(20, 300, 300, 500, 0), rim(20, 3000, 100), 1), 0, impl.ErrState},
		// The greatest and the least shares have an off of 600 beside one of 1.
		{wheel(hub(32, 300, 500, 101, 500), rim(32, 5900, -100), 3), 593823, impl.ErrNone},
		{wheel(hub(32, 500, 300, 500, 101), rim(32, 5900, 100), 3), 2, impl.ErrNone},
	}
	for _, c := range cases {
		if share, code := impl.TensionShare(c.wheel); code != c.code || share != c.share {
			t.Errorf("TensionShare(%v) = %d, %d, not %d, %d", c.wheel, share, code, c.share, c.code)
		}
	}
	for _, w := range wrongWheels() {
		if share, code := impl.TensionShare(w); code != impl.ErrInvalid || share != 0 {
			t.Errorf("TensionShare(%v) = %d, %d", w, share, code)
		}
	}
}

func TestTensionSharesAreNearest(t *testing.T) {
	for _, w := range rightWheels() {
		l, r := w.Hub.LeftOff+w.Rim.Offset, w.Hub.RightOff-w.Rim.Offset
		want, wantCode := int64(0), int64(impl.ErrState)
		if l >= 1 && r >= 1 {
			want = nearestOfTwo(productOf(1000, r, lengthOf(t, w, false)), l*lengthOf(t, w, true))
			wantCode = impl.ErrNone
		}
		if share, code := impl.TensionShare(w); code != wantCode || share != want {
			t.Errorf("TensionShare(%v) = %d, %d, not %d, %d", w, share, code, want, wantCode)
		}
	}
}
