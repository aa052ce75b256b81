package tests

import (
	"math"
	"math/big"
	"slices"
	"testing"

	"loop.example/g01050/impl"
)

// run is a stay with the teeth around which a chain runs.
type run struct{ stay, f, r int64 }

func rightStays() []int64 {
	return []int64{3000, 3001, 3047, 3048, 3049, 4063, 4064, 4065, 4699, 5555, 5969, 5999, 6000}
}

func wrongStays() []int64 { return append(beyondRange(3000, 6000), 0, 1, 300, -3000, -4064, 40640) }

func wrongChainrings() []int64 { return append(beyondRange(20, 60), 0, 9, -20, 600) }

func wrongSprockets() []int64 { return append(beyondRange(9, 52), 0, 1, 60, -9, 520) }

// rightLinks returns all numbers of links.
func rightLinks() []int64 {
	var all []int64
	for links := int64(40); links <= 200; links += 2 {
		all = append(all, links)
	}
	return all
}

// wrongLinks has all odd numbers that are near enough, and even ones that are out of the range.
func wrongLinks() []int64 {
	all := append(beyondRange(40, 200), 0, 1, 2, 36, 38, 202, 204, -40, -104, 2000, math.MinInt64+1, math.MaxInt64-1)
	for links := int64(-41); links <= 241; links += 2 {
		all = append(all, links)
	}
	return all
}

func rightRuns() []run {
	var all []run
	for _, stay := range rightStays() {
		for _, f := range []int64{20, 21, 31, 40, 51, 52, 53, 59, 60} {
			for _, r := range []int64{9, 10, 19, 20, 31, 40, 51, 52} {
				all = append(all, run{stay, f, r})
			}
		}
	}
	return all
}

// wrongRuns has one, two or three numbers that are not in their ranges.
func wrongRuns() []run {
	var all []run
	for _, stay := range wrongStays() {
		all = append(all, run{stay, 20, 9}, run{stay, 60, 52}, run{stay, 40, 40}, run{stay, 19, 9}, run{stay, 20, 8}, run{stay, stay, stay})
	}
	for _, f := range wrongChainrings() {
		all = append(all, run{3000, f, 9}, run{6000, f, 52}, run{4064, f, 40}, run{2999, f, 9}, run{3000, f, 53})
	}
	for _, r := range wrongSprockets() {
		all = append(all, run{3000, 20, r}, run{6000, 60, r}, run{4064, 40, r}, run{6001, 20, r}, run{3000, 61, r})
	}
	return all
}

// forAllTeeth calls f with all teeth of a chainring and of a sprocket.
func forAllTeeth(call func(f int64, r int64)) {
	for f := int64(20); f <= 60; f++ {
		for r := int64(9); r <= 52; r++ {
			call(f, r)
		}
	}
}

func roundedUp(r *big.Rat) int64 { return -roundedDown(new(big.Rat).Neg(r)) }

func expectedNeed(stay int64, f int64, r int64) int64 {
	straight := big.NewRat(2000*stay, 127)
	slanted := new(big.Rat).SetFrac(productOf(f-r, f-r, 127, 1000000000), productOf(39478418, stay))
	return roundedUp(straight) + 500*(f+r) + roundedUp(slanted)
}

func expectedSlacks(x impl.Train, stay int64, links int64) []int64 {
	var slacks []int64
	for _, gear := range expectedOrder(x) {
		slack := 1000*links - expectedNeed(stay, x.Front[gear[0]], x.Rear[gear[1]])
		if slack < 0 {
			slack = -1
		}
		slacks = append(slacks, slack)
	}
	return slacks
}

// expectedLoosest returns the indices of the loosest gear, and the code.
func expectedLoosest(x impl.Train, stay int64, links int64) ([]int64, int64) {
	slacks := expectedSlacks(x, stay, links)
	if slices.Contains(slacks, -1) {
		return []int64{0, 0}, impl.ErrState
	}
	return expectedOrder(x)[slices.Index(slacks, slices.Max(slacks))], impl.ErrNone
}

// trainWithAll has chainrings and sprockets with the same teeth, and the least and the greatest
// needs.
func trainWithAll() impl.Train {
	return train([]int64{20, 40, 60}, []int64{9, 20, 30, 40, 52}, 2100)
}

// checkNoRun calls f with runs that are not in their ranges.
func checkNoRun(t *testing.T, name string, f func(one run) (int64, int64)) {
	t.Helper()
	for _, one := range wrongRuns() {
		if n, code := f(one); code != impl.ErrRange || n != 0 {
			t.Errorf("%s with %d = %d, %d", name, one, n, code)
		}
	}
}

// checkNoChain calls f with trains that are not as described, and with stays and links that are
// not in their ranges. f returns the code, and whether all else that its function returns is zero.
func checkNoChain(t *testing.T, name string, f func(x impl.Train, stay int64, links int64) (int64, bool)) {
	t.Helper()
	for _, other := range [][]int64{{3000, 40}, {4064, 106}, {6000, 200}, {2999, 200}, {6001, 40}, {3000, 41}, {3000, 202}, {math.MinInt64, math.MaxInt64}} {
		checkNoTrain(t, name, func(x impl.Train) (int64, bool) { return f(x, other[0], other[1]) })
	}
	for _, x := range []impl.Train{usualTrain(), greatestTrain(), trainWithAll(), trainOfOne(20, 9, 1000)} {
		check := func(stay int64, links int64) {
			t.Helper()
			if code, zero := f(x, stay, links); code != impl.ErrRange || !zero {
				t.Errorf("%s with %d, %d, %d: %d, zero beside it: %v", name, x, stay, links, code, zero)
			}
		}
		for _, stay := range wrongStays() {
			// With 40 links the chain suffices for no gear, which comes later.
			for _, links := range []int64{40, 106, 200, 38, 41} {
				check(stay, links)
			}
		}
		for _, links := range wrongLinks() {
			for _, stay := range []int64{3000, 4064, 6000} {
				check(stay, links)
			}
		}
	}
}

func TestConstantsOfChapter10(t *testing.T) {
	if impl.Pitch != 127 || impl.PiSquared != 39478418 {
		t.Errorf("Pitch = %d, PiSquared = %d", impl.Pitch, impl.PiSquared)
	}
}

func TestNeedOf(t *testing.T) {
	cases := []struct {
		one  run
		want int64
	}{
		// All parts are whole: 64000, 40000 and 0.
		{run{4064, 40, 40}, 104000},
		{run{4064, 24, 24}, 88000},
		{run{3048, 20, 20}, 68000},
		// The first part is not: 47984.25..., 48015.7..., 47244.09... and 94488.1...
		{run{3047, 20, 20}, 67985},
		{run{3049, 20, 20}, 68016},
		{run{3000, 20, 20}, 67245},
		{run{6000, 52, 52}, 146489},
		// The last part is not: 1025.8..., 113.98..., 127.7... and 34.4...
		{run{4064, 48, 12}, 95026},
		{run{4064, 24, 12}, 82114},
		{run{3048, 20, 9}, 62628},
		{run{5969, 60, 52}, 150035},
		// Both are not, and each is rounded up for itself: 47244.09... and 68.6..., which are 47312.7...
		{run{3000, 60, 52}, 103314},
		// 64015.7... and 810.3..., which are 64826.1...; and 47244.09... and 129.7..., which are 47373.8...
		{run{4065, 20, 52}, 100827},
		{run{3000, 20, 9}, 61875},
		// Fewer teeth in front than behind, and the other way round.
		{run{4064, 20, 52}, 100811},
		{run{4064, 52, 20}, 100811},
		{run{3000, 20, 52}, 84344},
		{run{6000, 20, 52}, 131039},
		// The greatest difference, and the greatest need.
		{run{3000, 60, 9}, 84535},
		{run{6000, 60, 9}, 130384},
		{run{6000, 60, 52}, 150524},
	}
	for _, c := range cases {
		if need, code := impl.NeedOf(c.one.stay, c.one.f, c.one.r); code != impl.ErrNone || need != c.want {
			t.Errorf("NeedOf(%d) = %d, %d, not %d", c.one, need, code, c.want)
		}
	}
	for _, one := range rightRuns() {
		if need, code := impl.NeedOf(one.stay, one.f, one.r); code != impl.ErrNone || need != expectedNeed(one.stay, one.f, one.r) {
			t.Errorf("NeedOf(%d) = %d, %d, not %d", one, need, code, expectedNeed(one.stay, one.f, one.r))
		}
	}
	checkNoRun(t, "NeedOf", func(one run) (int64, int64) { return impl.NeedOf(one.stay, one.f, one.r) })
}

// TestPartsOfAllNeeds takes the part of the teeth away, and compares what is left with the least
// integers that are not less than the other two parts.
func TestPartsOfAllNeeds(t *testing.T) {
	whole := 0
	forAllTeeth(func(f int64, r int64) {
		for stay := int64(3000); stay <= 6000; stay += 7 {
			need, code := impl.NeedOf(stay, f, r)
			straight, slanted := 2000*stay/127, (f-r)*(f-r)*127000000000/(39478418*stay)
			if straight*127 < 2000*stay {
				straight++
			} else {
				whole++
			}
			if slanted*39478418*stay < (f-r)*(f-r)*127000000000 {
				slanted++
			}
			if code != impl.ErrNone || need-500*(f+r) != straight+slanted {
				t.Fatalf("NeedOf(%d, %d, %d) = %d, %d", stay, f, r, need, code)
			}
		}
	})
	if whole < 1000 {
		t.Errorf("only %d first parts are whole", whole)
	}
}

// TestRangesOfRuns compares which numbers are in their ranges.
func TestRangesOfRuns(t *testing.T) {
	check := func(stay int64, f int64, r int64) {
		t.Helper()
		want := int64(impl.ErrRange)
		if stay >= 3000 && stay <= 6000 && f >= 20 && f <= 60 && r >= 9 && r <= 52 {
			want = impl.ErrNone
		}
		need, code := impl.NeedOf(stay, f, r)
		links, second := impl.LinksFor(stay, f, r)
		if code != want || second != want || (need > 0) != (want == impl.ErrNone) || (links > 0) != (want == impl.ErrNone) {
			t.Errorf("NeedOf(%d, %d, %d) = %d, %d, LinksFor = %d, %d", stay, f, r, need, code, links, second)
		}
	}
	for stay := int64(-100); stay <= 7000; stay++ {
		check(stay, 40, 20)
	}
	for f := int64(-10); f <= 80; f++ {
		for r := int64(-10); r <= 80; r++ {
			check(3000, f, r)
			check(6000, f, r)
		}
	}
}

func TestLinksFor(t *testing.T) {
	cases := []struct {
		one  run
		want int64
	}{
		// Needs of just 104000, 88000, 68000, 74000 and 110000, and one less.
		{run{4064, 40, 40}, 104},
		{run{4064, 24, 24}, 88},
		{run{3048, 20, 20}, 68},
		{run{3226, 30, 16}, 74},
		{run{4754, 28, 42}, 110},
		{run{3047, 20, 20}, 68},
		// Needs of 74001, 102001 and 116001.
		{run{3021, 36, 16}, 76},
		{run{5045, 27, 18}, 104},
		{run{4315, 52, 44}, 118},
		// Needs of just 117000 and 85000, as the links have to be even.
		{run{5395, 36, 28}, 118},
		{run{3882, 34, 13}, 86},
		{run{4064, 48, 12}, 96},
		{run{4064, 20, 52}, 102},
		// The least links of all, and the greatest ones, for needs of 61875 and of 150524.
		{run{3000, 20, 9}, 62},
		{run{6000, 60, 52}, 152},
		{run{6000, 60, 9}, 132},
		{run{3000, 60, 52}, 104},
	}
	for _, c := range cases {
		if links, code := impl.LinksFor(c.one.stay, c.one.f, c.one.r); code != impl.ErrNone || links != c.want {
			t.Errorf("LinksFor(%d) = %d, %d, not %d", c.one, links, code, c.want)
		}
	}
	checkNoRun(t, "LinksFor", func(one run) (int64, int64) { return impl.LinksFor(one.stay, one.f, one.r) })
}

// TestLinksForAllTeeth checks that the links suffice, and that 2 fewer do not. There are links for
// every need, as none is greater than 150524, and none is less than 61875.
func TestLinksForAllTeeth(t *testing.T) {
	just, oneMore := 0, 0
	forAllTeeth(func(f int64, r int64) {
		for stay := int64(3000); stay <= 6000; stay += 5 {
			need, _ := impl.NeedOf(stay, f, r)
			links, code := impl.LinksFor(stay, f, r)
			if code != impl.ErrNone || links%2 != 0 || links < 40 || links > 200 || 1000*links < need || 1000*(links-2) >= need {
				t.Fatalf("LinksFor(%d, %d, %d) = %d, %d for a need of %d", stay, f, r, links, code, need)
			}
			if need == 1000*links {
				just++
			}
			if need == 1000*(links-2)+1 {
				oneMore++
			}
		}
	})
	if just < 100 || oneMore < 100 {
		t.Errorf("only %d needs are just a number of links, and %d are 1 more", just, oneMore)
	}
}

func TestStayFor(t *testing.T) {
	cases := []struct {
		links, f, r int64
		want, code  int64
	}{
		// A stay for which they just suffice.
		{104, 40, 40, 4064, impl.ErrNone},
		{88, 24, 24, 4064, impl.ErrNone},
		{68, 20, 20, 3048, impl.ErrNone},
		{74, 30, 16, 3226, impl.ErrNone},
		{110, 28, 42, 4754, impl.ErrNone},
		// A need that is 1 more.
		{74, 36, 16, 3020, impl.ErrNone},
		{102, 27, 18, 5044, impl.ErrNone},
		{116, 52, 44, 4314, impl.ErrNone},
		// Not even 3000 suffices: the needs are 67245, 61875 and 99245.
		{66, 20, 20, 0, impl.ErrNotFound},
		{40, 20, 20, 0, impl.ErrNotFound},
		{60, 20, 9, 0, impl.ErrNotFound},
		{62, 20, 9, 3007, impl.ErrNone},
		{98, 52, 52, 0, impl.ErrNotFound},
		{100, 52, 52, 3048, impl.ErrNone},
		{40, 60, 52, 0, impl.ErrNotFound},
		// 6000 does: the needs are 150524, 146489 and 130384.
		{200, 60, 52, 6000, impl.ErrNone},
		{152, 60, 52, 6000, impl.ErrNone},
		{150, 60, 52, 5966, impl.ErrNone},
		{148, 52, 52, 6000, impl.ErrNone},
		{146, 52, 52, 5969, impl.ErrNone},
		{132, 60, 9, 6000, impl.ErrNone},
		{200, 20, 9, 6000, impl.ErrNone},
	}
	for _, c := range cases {
		if stay, code := impl.StayFor(c.links, c.f, c.r); code != c.code || stay != c.want {
			t.Errorf("StayFor(%d, %d, %d) = %d, %d, not %d, %d", c.links, c.f, c.r, stay, code, c.want, c.code)
		}
	}
}

// TestStaysOfAllChains compares with the stays that have been gone through one by one, for all
// links and some teeth, and sees whether some links suffice just, whether they suffice for no stay,
// and whether they suffice for all.
func TestStaysOfAllChains(t *testing.T) {
	just, none, all := 0, 0, 0
	forAllTeeth(func(f int64, r int64) {
		if (f+r)%4 != 0 {
			return
		}
		stay := int64(3000)
		for _, links := range rightLinks() {
			var need int64
			for ; stay <= 6000; stay++ {
				if need, _ = impl.NeedOf(stay, f, r); need > 1000*links {
					break
				}
			}
			want, wantCode := stay-1, int64(impl.ErrNone)
			if stay == 3000 {
				want, wantCode = 0, impl.ErrNotFound
				none++
			}
			if stay == 6001 {
				all++
			}
			if last, _ := impl.NeedOf(want, f, r); last == 1000*links {
				just++
			}
			if got, code := impl.StayFor(links, f, r); code != wantCode || got != want {
				t.Fatalf("StayFor(%d, %d, %d) = %d, %d, not %d, %d", links, f, r, got, code, want, wantCode)
			}
		}
	})
	if just < 100 || none < 1000 || all < 1000 {
		t.Errorf("only %d links suffice just, %d for no stay, %d for all", just, none, all)
	}
}

// TestLongerStaysNeedMore is what makes the greatest stay one before which all suffice.
func TestLongerStaysNeedMore(t *testing.T) {
	forAllTeeth(func(f int64, r int64) {
		before := int64(0)
		for stay := int64(3000); stay <= 6000; stay++ {
			need, _ := impl.NeedOf(stay, f, r)
			if need <= before {
				t.Fatalf("NeedOf(%d, %d, %d) = %d is not more than %d", stay, f, r, need, before)
			}
			before = need
		}
	})
}

func TestStayForErrors(t *testing.T) {
	check := func(links int64, f int64, r int64) {
		t.Helper()
		if stay, code := impl.StayFor(links, f, r); code != impl.ErrRange || stay != 0 {
			t.Errorf("StayFor(%d, %d, %d) = %d, %d", links, f, r, stay, code)
		}
	}
	for _, links := range wrongLinks() {
		check(links, 40, 40)
		check(links, 20, 9)
		check(links, 60, 52)
		check(links, 19, 53)
	}
	// With 40 links no stay is found, which comes later.
	for _, links := range []int64{40, 104, 200, 38, 41, 202} {
		for _, f := range wrongChainrings() {
			check(links, f, 9)
			check(links, f, 52)
			check(links, f, 8)
		}
		for _, r := range wrongSprockets() {
			check(links, 20, r)
			check(links, 60, r)
			check(links, 61, r)
		}
	}
}

func TestChainForTrain(t *testing.T) {
	cases := []struct {
		x    impl.Train
		stay int64
		want int64
	}{
		{trainOfOne(40, 40, 2000), 4064, 106},
		{trainOfOne(24, 24, 2000), 4064, 90},
		{usualTrain(), 4064, 104},
		// Needs of just 74000 and of 74001.
		{trainOfOne(30, 16, 2000), 3226, 76},
		{trainOfOne(36, 16, 2000), 3021, 78},
		// The greatest of both count, although the least sprocket is further from the chainring.
		{train([]int64{20, 40}, []int64{9, 40}, 2000), 4064, 106},
		{train([]int64{20, 30, 40}, []int64{9, 10, 40}, 2000), 4064, 106},
		{train([]int64{40}, []int64{9, 20, 30, 40}, 2000), 4064, 106},
		{train([]int64{20, 40}, []int64{40}, 2000), 4064, 106},
		// The least links, and the greatest ones.
		{trainOfOne(20, 9, 2000), 3000, 64},
		{trainOfOne(60, 52, 2000), 6000, 154},
		{trainWithAll(), 6000, 154},
		{trainWithAll(), 3000, 106},
	}
	for _, c := range cases {
		if links, code := impl.ChainForTrain(c.x, c.stay); code != impl.ErrNone || links != c.want {
			t.Errorf("ChainForTrain(%d, %d) = %d, %d, not %d", c.x, c.stay, links, code, c.want)
		}
	}
	for _, x := range rightTrains() {
		for _, stay := range rightStays() {
			need := expectedNeed(stay, slices.Max(x.Front), slices.Max(x.Rear))
			want := (need+1999)/2000*2 + 2
			if links, code := impl.ChainForTrain(x, stay); code != impl.ErrNone || links != want {
				t.Errorf("ChainForTrain(%d, %d) = %d, %d, not %d", x, stay, links, code, want)
			}
		}
	}
}

// TestChainsForTrainsSuffice checks that a chain for a train suffices for each gear with 2 links
// more than are needed.
func TestChainsForTrainsSuffice(t *testing.T) {
	for _, x := range rightTrains() {
		for _, stay := range rightStays() {
			links, _ := impl.ChainForTrain(x, stay)
			slacks, code := impl.SlacksOf(x, stay, links)
			if code != impl.ErrNone || slices.Min(slacks) < 2000 || slices.Min(slacks) >= 4000 {
				t.Errorf("SlacksOf(%d, %d, %d) = %d, %d", x, stay, links, slacks, code)
			}
		}
	}
}

func TestChainForTrainErrors(t *testing.T) {
	for _, stay := range append(wrongStays(), rightStays()...) {
		checkNoTrain(t, "ChainForTrain", func(x impl.Train) (int64, bool) {
			links, code := impl.ChainForTrain(x, stay)
			return code, links == 0
		})
	}
	for _, x := range rightTrains() {
		for _, stay := range wrongStays() {
			if links, code := impl.ChainForTrain(x, stay); code != impl.ErrRange || links != 0 {
				t.Errorf("ChainForTrain(%d, %d) = %d, %d", x, stay, links, code)
			}
		}
	}
}

func TestSlacksOf(t *testing.T) {
	cases := []struct {
		x     impl.Train
		stay  int64
		links int64
		want  []int64
	}{
		{trainOfOne(40, 40, 2000), 4064, 106, []int64{2000}},
		// A slack of 0, and just none.
		{trainOfOne(40, 40, 2000), 4064, 104, []int64{0}},
		{trainOfOne(40, 40, 2000), 4064, 102, []int64{-1}},
		{trainOfOne(36, 16, 2000), 3021, 74, []int64{-1}},
		{trainOfOne(36, 16, 2000), 3021, 76, []int64{1999}},
		{trainOfOne(30, 16, 2000), 3226, 74, []int64{0}},
		// The gears have 24/24, 24/12, 48/24 and 48/12 teeth: needs of 88000, 82114, 100456 and 95026.
		{usualTrain(), 4064, 104, []int64{16000, 21886, 3544, 8974}},
		{usualTrain(), 4064, 102, []int64{14000, 19886, 1544, 6974}},
		{usualTrain(), 4064, 100, []int64{12000, 17886, -1, 4974}},
		{usualTrain(), 4064, 96, []int64{8000, 13886, -1, 974}},
		{usualTrain(), 4064, 94, []int64{6000, 11886, -1, -1}},
		{usualTrain(), 4064, 88, []int64{0, 5886, -1, -1}},
		{usualTrain(), 4064, 86, []int64{-1, 3886, -1, -1}},
		{usualTrain(), 4064, 84, []int64{-1, 1886, -1, -1}},
		{usualTrain(), 4064, 82, []int64{-1, -1, -1, -1}},
		{usualTrain(), 4064, 40, []int64{-1, -1, -1, -1}},
		{usualTrain(), 4064, 200, []int64{112000, 117886, 99544, 104974}},
		// 24/40 and 40/24 teeth have the same need, 96203, although they are different gears.
		{train([]int64{24, 40}, []int64{24, 40}, 2000), 4064, 98, []int64{1797, 10000, -1, 1797}},
		{trainOfOne(60, 52, 2500), 6000, 152, []int64{1476}},
		{trainOfOne(20, 9, 1000), 3000, 62, []int64{125}},
		{trainOfOne(20, 9, 1000), 3000, 200, []int64{138125}},
	}
	for _, c := range cases {
		if slacks, code := impl.SlacksOf(c.x, c.stay, c.links); code != impl.ErrNone || !slices.Equal(slacks, c.want) {
			t.Errorf("SlacksOf(%d, %d, %d) = %d, %d, not %d", c.x, c.stay, c.links, slacks, code, c.want)
		}
	}
	checkNoChain(t, "SlacksOf", func(x impl.Train, stay int64, links int64) (int64, bool) {
		slacks, code := impl.SlacksOf(x, stay, links)
		return code, len(slacks) == 0
	})
}

// someLinks has numbers of links with which a chain suffices for no gear, for some, and for all.
func someLinks() []int64 {
	return []int64{40, 60, 62, 70, 78, 80, 88, 94, 100, 104, 106, 112, 118, 124, 130, 152, 200}
}

func TestSlacksAndLoosestGearsOfTrains(t *testing.T) {
	found := 0
	for _, x := range append(rightTrains(), trainWithAll()) {
		for _, stay := range []int64{3000, 4064, 4699, 6000} {
			for _, links := range someLinks() {
				want := expectedSlacks(x, stay, links)
				if slacks, code := impl.SlacksOf(x, stay, links); code != impl.ErrNone || !slices.Equal(slacks, want) {
					t.Errorf("SlacksOf(%d, %d, %d) = %d, %d, not %d", x, stay, links, slacks, code, want)
				}
				loosest, wantCode := expectedLoosest(x, stay, links)
				if front, rear, code := impl.LoosestGear(x, stay, links); code != wantCode || front != loosest[0] || rear != loosest[1] {
					t.Errorf("LoosestGear(%d, %d, %d) = %d, %d, %d, not %d, %d", x, stay, links, front, rear, code, loosest, wantCode)
				}
				if wantCode == impl.ErrNone {
					found++
				}
			}
		}
	}
	if found < 1000 {
		t.Errorf("only %d chains suffice for all gears", found)
	}
}

func TestCapacityOf(t *testing.T) {
	cases := []struct {
		x    impl.Train
		want int64
	}{
		{usualTrain(), 36},
		{greatestTrain(), 45},
		{trainOfThrees(), 70},
		{trainWithAll(), 83},
		{train([]int64{20, 60}, []int64{9, 52}, 2000), 83},
		{train([]int64{20, 59, 60}, []int64{9, 10, 52}, 2000), 83},
		// A single chainring or sprocket adds nothing.
		{train([]int64{60}, []int64{9, 52}, 2000), 43},
		{train([]int64{20, 60}, []int64{52}, 2000), 40},
		{train([]int64{40}, []int64{20, 21}, 2000), 1},
		{train([]int64{40, 41}, []int64{20}, 2000), 1},
		{trainOfOne(20, 9, 1000), 0},
		{trainOfOne(60, 9, 2500), 0},
		{trainOfOne(40, 40, 2000), 0},
	}
	for _, c := range cases {
		if capacity, code := impl.CapacityOf(c.x); code != impl.ErrNone || capacity != c.want {
			t.Errorf("CapacityOf(%d) = %d, %d, not %d", c.x, capacity, code, c.want)
		}
	}
	for _, x := range rightTrains() {
		want := slices.Max(x.Front) - slices.Min(x.Front) + (slices.Max(x.Rear) - slices.Min(x.Rear))
		if capacity, code := impl.CapacityOf(x); code != impl.ErrNone || capacity != want {
			t.Errorf("CapacityOf(%d) = %d, %d, not %d", x, capacity, code, want)
		}
	}
	checkNoTrain(t, "CapacityOf", func(x impl.Train) (int64, bool) {
		capacity, code := impl.CapacityOf(x)
		return code, capacity == 0
	})
}

func TestLoosestGear(t *testing.T) {
	cases := []struct {
		x           impl.Train
		stay, links int64
		code        int64
	}{
		{trainOfOne(40, 40, 2000), 4064, 106, impl.ErrNone},
		// A slack of 0 suffices, and a need that is 1 more does not.
		{trainOfOne(40, 40, 2000), 4064, 104, impl.ErrNone},
		{trainOfOne(40, 40, 2000), 4064, 102, impl.ErrState},
		{trainOfOne(30, 16, 2000), 3226, 74, impl.ErrNone},
		{trainOfOne(36, 16, 2000), 3021, 74, impl.ErrState},
		{trainOfOne(36, 16, 2000), 3021, 76, impl.ErrNone},
		// The loosest gear is not the first one in the order, which has 24/24 teeth.
		{usualTrain(), 4064, 104, impl.ErrNone},
		{usualTrain(), 4064, 102, impl.ErrNone},
		// One gear has none, neither the first one in the order nor the last one; then two; then all.
		{usualTrain(), 4064, 100, impl.ErrState},
		{usualTrain(), 4064, 94, impl.ErrState},
		{usualTrain(), 4064, 40, impl.ErrState},
		{greatestTrain(), 4100, 108, impl.ErrNone},
		{greatestTrain(), 4100, 106, impl.ErrState},
		{trainWithAll(), 3000, 104, impl.ErrNone},
		{trainWithAll(), 3000, 102, impl.ErrState},
		{trainWithAll(), 6000, 152, impl.ErrNone},
		{trainWithAll(), 6000, 150, impl.ErrState},
	}
	for _, c := range cases {
		if front, rear, code := impl.LoosestGear(c.x, c.stay, c.links); code != c.code || front != 0 || rear != 0 {
			t.Errorf("LoosestGear(%d, %d, %d) = %d, %d, %d, not %d", c.x, c.stay, c.links, front, rear, code, c.code)
		}
	}
	checkNoChain(t, "LoosestGear", func(x impl.Train, stay int64, links int64) (int64, bool) {
		front, rear, code := impl.LoosestGear(x, stay, links)
		return code, front == 0 && rear == 0
	})
}

// TestMoreTeethNeedMore is why the loosest gear has the least chainring and the least sprocket, and
// why there are never several.
func TestMoreTeethNeedMore(t *testing.T) {
	for _, stay := range rightStays() {
		forAllTeeth(func(f int64, r int64) {
			need, _ := impl.NeedOf(stay, f, r)
			if more, code := impl.NeedOf(stay, f+1, r); code == impl.ErrNone && more <= need {
				t.Errorf("NeedOf(%d, %d, %d) = %d is not more than %d", stay, f+1, r, more, need)
			}
			if more, code := impl.NeedOf(stay, f, r+1); code == impl.ErrNone && more <= need {
				t.Errorf("NeedOf(%d, %d, %d) = %d is not more than %d", stay, f, r+1, more, need)
			}
		})
	}
}

// TestCutLinks compares all pairs of numbers near the ranges.
func TestCutLinks(t *testing.T) {
	isRight := func(links int64) bool { return links >= 40 && links <= 200 && links%2 == 0 }
	for links := int64(-210); links <= 260; links++ {
		for wanted := int64(-210); wanted <= 260; wanted++ {
			want, wantCode := links-wanted, int64(impl.ErrNone)
			if !isRight(links) || !isRight(wanted) {
				want, wantCode = 0, impl.ErrRange
			} else if links < wanted {
				want, wantCode = 0, impl.ErrState
			}
			if cut, code := impl.CutLinks(links, wanted); code != wantCode || cut != want {
				t.Fatalf("CutLinks(%d, %d) = %d, %d, not %d, %d", links, wanted, cut, code, want, wantCode)
			}
		}
	}
	cases := []struct{ links, wanted, want, code int64 }{
		{110, 104, 6, impl.ErrNone},
		{104, 104, 0, impl.ErrNone},
		{40, 40, 0, impl.ErrNone},
		{200, 40, 160, impl.ErrNone},
		{200, 200, 0, impl.ErrNone},
		{102, 104, 0, impl.ErrState},
		{40, 200, 0, impl.ErrState},
		{40, 202, 0, impl.ErrRange},
		{38, 104, 0, impl.ErrRange},
		{105, 104, 0, impl.ErrRange},
		{104, 103, 0, impl.ErrRange},
	}
	for _, c := range cases {
		if cut, code := impl.CutLinks(c.links, c.wanted); code != c.code || cut != c.want {
			t.Errorf("CutLinks(%d, %d) = %d, %d, not %d, %d", c.links, c.wanted, cut, code, c.want, c.code)
		}
	}
}

func TestCutLinksErrors(t *testing.T) {
	for _, wrong := range wrongLinks() {
		for _, other := range append(wrongLinks(), 40, 104, 200) {
			if cut, code := impl.CutLinks(wrong, other); code != impl.ErrRange || cut != 0 {
				t.Errorf("CutLinks(%d, %d) = %d, %d", wrong, other, cut, code)
			}
			if cut, code := impl.CutLinks(other, wrong); code != impl.ErrRange || cut != 0 {
				t.Errorf("CutLinks(%d, %d) = %d, %d", other, wrong, cut, code)
			}
		}
	}
}

// checkMoreLinks compares what two chains suffice for, of which the second one has 2 links more.
func checkMoreLinks(t *testing.T, x impl.Train, stay int64, fewer int64) {
	t.Helper()
	before, _ := impl.SlacksOf(x, stay, fewer)
	after, code := impl.SlacksOf(x, stay, fewer+2)
	if code != impl.ErrNone || len(before) != len(after) {
		t.Fatalf("SlacksOf(%d, %d, %d) = %d, %d after %d", x, stay, fewer+2, after, code, before)
	}
	for i := range before {
		if before[i] >= 0 && after[i] != before[i]+2000 || before[i] < 0 && after[i] >= 2000 {
			t.Fatalf("SlacksOf(%d, %d, %d) = %d after %d", x, stay, fewer+2, after, before)
		}
	}
	_, _, code = impl.LoosestGear(x, stay, fewer)
	if _, _, second := impl.LoosestGear(x, stay, fewer+2); code == impl.ErrNone && second != impl.ErrNone {
		t.Fatalf("LoosestGear(%d, %d, %d): %d, with 2 links fewer %d", x, stay, fewer+2, second, code)
	}
}

func TestMoreLinksSufficeForWhateverFewerDo(t *testing.T) {
	for _, x := range append(rightTrains(), trainWithAll()) {
		for _, stay := range []int64{3000, 4064, 6000} {
			for links := int64(40); links < 200; links += 2 {
				checkMoreLinks(t, x, stay, links)
			}
		}
	}
	forAllTeeth(func(f int64, r int64) {
		before, code := int64(0), int64(impl.ErrNotFound)
		for _, links := range rightLinks() {
			stay, next := impl.StayFor(links, f, r)
			if stay < before || code == impl.ErrNone && next != impl.ErrNone {
				t.Fatalf("StayFor(%d, %d, %d) = %d, %d after %d, %d", links, f, r, stay, next, before, code)
			}
			before, code = stay, next
		}
	})
}

// TestLinksAndStaysAgree asks for the stay of the links for a stay.
func TestLinksAndStaysAgree(t *testing.T) {
	for _, one := range rightRuns() {
		links, _ := impl.LinksFor(one.stay, one.f, one.r)
		if stay, code := impl.StayFor(links, one.f, one.r); code != impl.ErrNone || stay < one.stay {
			t.Errorf("StayFor(%d, %d, %d) = %d, %d, although they suffice for %d", links, one.f, one.r, stay, code, one.stay)
		}
		if stay, code := impl.StayFor(links-2, one.f, one.r); code == impl.ErrNone && stay >= one.stay {
			t.Errorf("StayFor(%d, %d, %d) = %d, although they do not suffice for %d", links-2, one.f, one.r, stay, one.stay)
		}
	}
}

func TestArgumentsOfChapter10AreLeftAlone(t *testing.T) {
	// What is behind each list stands in its spare capacity.
	front, rear := []int64{20, 40, 60, 70, 80}, []int64{9, 20, 40, 52, 60, 70}
	frontBefore, rearBefore := slices.Clone(front), slices.Clone(rear)
	check := func(what string) {
		t.Helper()
		if !slices.Equal(front, frontBefore) || !slices.Equal(rear, rearBefore) {
			t.Fatalf("%s: an argument, or what is behind it, was changed to %d, %d", what, front, rear)
		}
	}
	callAll := func(x impl.Train, stay int64, links int64) []int64 {
		impl.ChainForTrain(x, stay)
		impl.CapacityOf(x)
		impl.LoosestGear(x, stay, links)
		slacks, _ := impl.SlacksOf(x, stay, links)
		return slacks
	}
	x := train(front[:3], rear[:4], 2100)
	slacks := callAll(x, 4064, 120)
	check("results")
	want := expectedSlacks(x, 4064, 120)
	if !slices.Equal(slacks, want) {
		t.Fatalf("SlacksOf = %d, not %d", slacks, want)
	}
	callAll(x, 4064, 60)
	callAll(x, 2999, 120)
	callAll(train(front[:5], rear[:4], 2100), 4064, 120)
	callAll(train(front[:3], rear[:6], 2100), 4064, 120)
	check("errors")
	for i := range slacks[:cap(slacks)] {
		slacks[:cap(slacks)][i] = 7000
	}
	check("a changed result")
	if again := callAll(x, 4064, 120); !slices.Equal(again, want) {
		t.Errorf("two results share memory: %d, not %d", again, want)
	}
}
