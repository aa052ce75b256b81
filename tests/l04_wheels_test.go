package tests

import (
	"math"
	"strings"
	"testing"

	"loop.example/g01050/impl"
)

func numbersOfHoles() []int64 { return []int64{12, 16, 20, 24, 32, 36, 40, 48} }

func hub(holes int64, left int64, right int64, leftOff int64, rightOff int64) impl.Hub {
	return impl.Hub{Holes: holes, Left: left, Right: right, LeftOff: leftOff, RightOff: rightOff}
}

func rim(holes int64, diameter int64, offset int64) impl.Rim {
	return impl.Rim{Holes: holes, Diameter: diameter, Offset: offset}
}

func wheel(h impl.Hub, r impl.Rim, crosses int64) impl.Wheel {
	return impl.Wheel{Hub: h, Rim: r, Crosses: crosses}
}

// rightHubs returns hubs with each number of holes, and with each other field at its limits.
func rightHubs() []impl.Hub {
	var all []impl.Hub
	for _, holes := range numbersOfHoles() {
		all = append(all, hub(holes, 440, 450, 350, 200))
	}
	for _, left := range []int64{200, 1200} {
		for _, right := range []int64{200, 1200} {
			for _, leftOff := range []int64{0, 500} {
				for _, rightOff := range []int64{0, 500} {
					all = append(all, hub(32, left, right, leftOff, rightOff))
				}
			}
		}
	}
	return append(all, hub(12, 201, 1199, 1, 499), hub(48, 1000, 299, 9, 10), hub(36, 999, 1001, 100, 0))
}

// wrongHubs returns hubs in each of which one field alone is wrong, and others.
func wrongHubs() []impl.Hub {
	all := []impl.Hub{{}}
	for _, holes := range []int64{-32, -12, 0, 4, 8, 10, 11, 13, 14, 15, 17, 18, 19, 21, 22, 23, 25, 28, 30, 31, 33, 34, 35, 37, 38, 39, 41, 44, 47, 49, 52, 64, 1<<32 + 32, math.MinInt64, math.MaxInt64} {
		all = append(all, hub(holes, 440, 450, 350, 200))
	}
	for _, flange := range []int64{199, 1201, 0, -1, -200, -440, 12000, 1<<32 + 440, math.MinInt64, math.MaxInt64} {
		all = append(all, hub(32, flange, 450, 350, 200), hub(32, 440, flange, 350, 200))
	}
	for _, off := range []int64{-1, 501, -500, 5000, 1<<32 + 350, math.MinInt64, math.MaxInt64} {
		all = append(all, hub(32, 440, 450, off, 200), hub(32, 440, 450, 350, off))
	}
	return append(all, hub(31, 199, 1201, -1, 501))
}

func wrongRims() []impl.Rim {
	all := []impl.Rim{{}}
	for _, h := range wrongHubs() {
		if h.Holes != 32 {
			all = append(all, rim(h.Holes, 5900, 0))
		}
	}
	for _, diameter := range []int64{1999, 7001, 0, -2000, -5900, 59000, 1<<32 + 5900, math.MinInt64, math.MaxInt64} {
		all = append(all, rim(32, diameter, 0))
	}
	for _, offset := range []int64{-101, 101, -1000, 1000, 1 << 32, math.MinInt64, math.MaxInt64} {
		all = append(all, rim(32, 5900, offset))
	}
	return append(all, rim(33, 1999, 101))
}

// wrongWheels returns wheels of which a hub, a rim, their holes or the crosses are wrong.
func wrongWheels() []impl.Wheel {
	rightHub, rightRim := hub(32, 440, 450, 350, 200), rim(32, 5900, 0)
	all := []impl.Wheel{{}, {Hub: rightHub}, {Rim: rightRim}}
	for _, h := range wrongHubs() {
		all = append(all, wheel(h, rightRim, 0), wheel(h, rim(h.Holes, 5900, 0), 0))
	}
	for _, r := range wrongRims() {
		all = append(all, wheel(rightHub, r, 0))
	}
	for _, crosses := range []int64{-1, 8, 9, 16, 32, -7, 1 << 32, math.MinInt64, math.MaxInt64} {
		all = append(all, wheel(rightHub, rightRim, crosses))
	}
	return append(all, wheel(rightHub, rim(36, 5900, 0), 3), wheel(rightHub, rim(24, 5900, 0), 3), wheel(hub(12, 440, 450, 350, 200), rim(12, 5900, 0), 3))
}

// rightWheels returns a wheel for each of the right hubs, with rims at their limits.
func rightWheels() []impl.Wheel {
	var all []impl.Wheel
	for i, h := range rightHubs() {
		all = append(all,
			wheel(h, rim(h.Holes, 5900, 0), 0),
			wheel(h, rim(h.Holes, 2000, -100), 2),
			wheel(h, rim(h.Holes, 7000, 100), h.Holes/4-1),
			wheel(h, rim(h.Holes, 2001+int64(i), -99+int64(i)), 1))
	}
	return all
}

func TestIsHub(t *testing.T) {
	for _, h := range rightHubs() {
		if !impl.IsHub(h) {
			t.Errorf("%v is no hub", h)
		}
	}
	for _, h := range wrongHubs() {
		if impl.IsHub(h) {
			t.Errorf("%v is a hub", h)
		}
	}
}

func TestEveryNumberOfHoles(t *testing.T) {
	most := map[int64]int64{12: 2, 16: 3, 20: 4, 24: 5, 32: 7, 36: 8, 40: 9, 48: 11}
	for holes := int64(-100); holes <= 300; holes++ {
		want, may := most[holes]
		wantCode := int64(impl.ErrNone)
		if !may {
			wantCode = impl.ErrRange
		}
		if got, code := impl.MostCrosses(holes); code != wantCode || got != want {
			t.Errorf("MostCrosses(%d) = %d, %d, not %d, %d", holes, got, code, want, wantCode)
		}
		h, r := hub(holes, 440, 450, 350, 200), rim(holes, 5900, 0)
		if impl.IsHub(h) != may || impl.IsRim(r) != may || impl.IsWheel(wheel(h, r, 0)) != may {
			t.Errorf("holes %d: IsHub, IsRim, IsWheel %v, %v, %v, not %v", holes, impl.IsHub(h), impl.IsRim(r), impl.IsWheel(wheel(h, r, 0)), may)
		}
	}
	for _, holes := range []int64{math.MinInt64, math.MinInt64 + 32, math.MaxInt64, 1<<32 + 32, -1 << 32} {
		if got, code := impl.MostCrosses(holes); code != impl.ErrRange || got != 0 {
			t.Errorf("MostCrosses(%d) = %d, %d", holes, got, code)
		}
	}
}

func TestIsRim(t *testing.T) {
	for _, holes := range numbersOfHoles() {
		for _, diameter := range []int64{2000, 2001, 5900, 6999, 7000} {
			for _, offset := range []int64{-100, -99, -1, 0, 1, 99, 100} {
				if r := rim(holes, diameter, offset); !impl.IsRim(r) {
					t.Errorf("%v is no rim", r)
				}
			}
		}
	}
	for _, r := range wrongRims() {
		if impl.IsRim(r) {
			t.Errorf("%v is a rim", r)
		}
	}
}

func TestIsWheel(t *testing.T) {
	for _, w := range rightWheels() {
		if !impl.IsWheel(w) {
			t.Errorf("%v is no wheel", w)
		}
	}
	for _, w := range wrongWheels() {
		if impl.IsWheel(w) {
			t.Errorf("%v is a wheel", w)
		}
	}
}

func TestHolesAndCrossesOfWheels(t *testing.T) {
	for _, hubHoles := range numbersOfHoles() {
		for _, rimHoles := range numbersOfHoles() {
			for crosses := int64(-3); crosses <= 15; crosses++ {
				w := wheel(hub(hubHoles, 200, 1200, 0, 500), rim(rimHoles, 7000, -100), crosses)
				want := hubHoles == rimHoles && crosses >= 0 && 4*(crosses+1) <= hubHoles
				if impl.IsWheel(w) != want {
					t.Errorf("IsWheel(%v) = %v", w, !want)
				}
			}
		}
	}
}

func TestDishOf(t *testing.T) {
	cases := []struct{ leftOff, rightOff, offset, dish int64 }{
		{350, 200, 0, -150},
		{200, 350, 0, 150},
		{350, 200, 25, -200},
		{350, 200, -25, -100},
		{0, 0, 0, 0},
		{0, 0, 100, -200},
		{0, 0, -100, 200},
		{300, 300, 1, -2},
		{300, 300, -1, 2},
		{500, 0, 100, -700},
		{500, 0, -100, -300},
		{0, 500, -100, 700},
		{0, 500, 100, 300},
		{1, 0, 0, -1},
	}
	for _, c := range cases {
		w := wheel(hub(36, 300, 700, c.leftOff, c.rightOff), rim(36, 6220, c.offset), 3)
		if dish, code := impl.DishOf(w); code != impl.ErrNone || dish != c.dish {
			t.Errorf("DishOf(%v) = %d, %d, not %d", w, dish, code, c.dish)
		}
	}
	for _, w := range wrongWheels() {
		if dish, code := impl.DishOf(w); code != impl.ErrInvalid || dish != 0 {
			t.Errorf("DishOf(%v) = %d, %d", w, dish, code)
		}
	}
}

func TestMirrorHub(t *testing.T) {
	h, want := hub(24, 300, 400, 10, 20), hub(24, 400, 300, 20, 10)
	if got, code := impl.MirrorHub(h); code != impl.ErrNone || got != want {
		t.Errorf("MirrorHub(%v) = %v, %d", h, got, code)
	}
	for _, h := range rightHubs() {
		got, code := impl.MirrorHub(h)
		if want := hub(h.Holes, h.Right, h.Left, h.RightOff, h.LeftOff); code != impl.ErrNone || got != want {
			t.Errorf("MirrorHub(%v) = %v, %d", h, got, code)
		}
		if twice, code := impl.MirrorHub(got); code != impl.ErrNone || twice != h {
			t.Errorf("MirrorHub(%v) = %v, %d, not %v", got, twice, code, h)
		}
	}
	for _, h := range wrongHubs() {
		if got, code := impl.MirrorHub(h); code != impl.ErrInvalid || got != (impl.Hub{}) {
			t.Errorf("MirrorHub(%v) = %v, %d", h, got, code)
		}
	}
}

func TestMirrorWheel(t *testing.T) {
	w := wheel(hub(24, 300, 400, 10, 20), rim(24, 3000, -7), 4)
	want := wheel(hub(24, 400, 300, 20, 10), rim(24, 3000, 7), 4)
	if got, code := impl.MirrorWheel(w); code != impl.ErrNone || got != want {
		t.Errorf("MirrorWheel(%v) = %v, %d", w, got, code)
	}
	for _, w := range rightWheels() {
		got, code := impl.MirrorWheel(w)
		want := wheel(hub(w.Hub.Holes, w.Hub.Right, w.Hub.Left, w.Hub.RightOff, w.Hub.LeftOff), rim(w.Rim.Holes, w.Rim.Diameter, -w.Rim.Offset), w.Crosses)
		if code != impl.ErrNone || got != want {
			t.Errorf("MirrorWheel(%v) = %v, %d", w, got, code)
		}
		if twice, code := impl.MirrorWheel(got); code != impl.ErrNone || twice != w {
			t.Errorf("MirrorWheel(%v) = %v, %d, not %v", got, twice, code, w)
		}
		there, _ := impl.DishOf(w)
		if back, code := impl.DishOf(got); code != impl.ErrNone || back != -there {
			t.Errorf("DishOf(%v) = %d, %d, but of its mirror %d", got, back, code, there)
		}
	}
	for _, w := range wrongWheels() {
		if got, code := impl.MirrorWheel(w); code != impl.ErrInvalid || got != (impl.Wheel{}) {
			t.Errorf("MirrorWheel(%v) = %v, %d", w, got, code)
		}
	}
}

func TestHubTexts(t *testing.T) {
	cases := []struct {
		hub  impl.Hub
		text string
	}{
		{hub(32, 440, 450, 350, 200), "32/44.0/45.0/35.0/20.0"},
		{hub(12, 200, 1200, 0, 500), "12/20.0/120.0/0.0/50.0"},
		{hub(48, 1200, 200, 500, 0), "48/120.0/20.0/50.0/0.0"},
		{hub(36, 1001, 999, 9, 10), "36/100.1/99.9/0.9/1.0"},
		{hub(20, 205, 1199, 1, 499), "20/20.5/119.9/0.1/49.9"},
		{hub(16, 300, 300, 100, 100), "16/30.0/30.0/10.0/10.0"},
	}
	for _, c := range cases {
		if text, code := impl.HubText(c.hub); code != impl.ErrNone || text != c.text {
			t.Errorf("HubText(%v) = %q, %d, not %q", c.hub, text, code, c.text)
		}
		if h, code := impl.ReadHub(c.text); code != impl.ErrNone || h != c.hub {
			t.Errorf("ReadHub(%q) = %v, %d, not %v", c.text, h, code, c.hub)
		}
	}
	for _, h := range wrongHubs() {
		if text, code := impl.HubText(h); code != impl.ErrInvalid || text != "" {
			t.Errorf("HubText(%v) = %q, %d", h, text, code)
		}
	}
}

func TestHubsAreRecovered(t *testing.T) {
	check := func(h impl.Hub) {
		t.Helper()
		text, code := impl.HubText(h)
		if read, two := impl.ReadHub(text); code != impl.ErrNone || two != impl.ErrNone || read != h {
			t.Errorf("ReadHub(%q) = %v, %d, not %v", text, read, two, h)
		}
	}
	for _, h := range rightHubs() {
		check(h)
	}
	for n := int64(0); n <= 500; n++ {
		check(hub(40, 200+2*n, 1200-n, n, 500-n))
	}
}

func TestReadHubErrors(t *testing.T) {
	texts := []string{
		"", "/", "////", "/////", "32", "-", "0/0.0/0.0/0.0/0.0",
		// Too few and too many parts.
		"32/44.0/45.0/35.0", "32/44.0/45.0/35.0/", "/32/44.0/45.0/35.0/20.0", "32/44.0/45.0/35.0/20.0/",
		"32/44.0/45.0/35.0/20.0/20.0", "32//44.0/45.0/35.0/20.0", "44.0/45.0/35.0/20.0", "/44.0/45.0/35.0/20.0",
		"32/44.0/45.0/35.0/20.0\n", " 32/44.0/45.0/35.0/20.0", "32/44.0 /45.0/35.0/20.0", "32,44.0,45.0,35.0,20.0", "32/44.0/45.0/35.0\\20.0",
		// Signs and superfluous zeros.
		"+32/44.0/45.0/35.0/20.0", "-32/44.0/45.0/35.0/20.0", "032/44.0/45.0/35.0/20.0", "32.0/44.0/45.0/35.0/20.0",
		"32/+44.0/45.0/35.0/20.0", "32/-44.0/45.0/35.0/20.0", "32/44.0/45.0/-35.0/20.0", "32/44.0/45.0/-0.0/20.0",
		"32/044.0/45.0/35.0/20.0", "32/44.00/45.0/35.0/20.0", "32/44.0/45.0/00.0/20.0",
		// Missing parts of measures.
		"32/44/45.0/35.0/20.0", "32/44.0/45.0/35.0/20", "32/44./45.0/35.0/20.0", "32/44.0/45.0/.5/20.0", "32/440/450/350/200", "32/4.40/45.0/35.0/20.0",
		// No hubs.
		"31/44.0/45.0/35.0/20.0", "28/44.0/45.0/35.0/20.0", "44/44.0/45.0/35.0/20.0", "4294967328/44.0/45.0/35.0/20.0", "18446744073709551648/44.0/45.0/35.0/20.0",
		"32/19.9/45.0/35.0/20.0", "32/120.1/45.0/35.0/20.0", "32/44.0/19.9/35.0/20.0", "32/44.0/120.1/35.0/20.0",
		"32/44.0/45.0/50.1/20.0", "32/44.0/45.0/35.0/50.1", "32/44.0/45.0/-0.1/20.0", "32/44.0/45.0/35.0/-0.1",
		strings.Repeat("/", 100000), "32/44.0/45.0/35.0/" + strings.Repeat("0", 1000) + "20.0",
	}
	for _, s := range texts {
		if h, code := impl.ReadHub(s); code != impl.ErrSyntax || h != (impl.Hub{}) {
			t.Errorf("ReadHub(%.50q) = %v, %d", s, h, code)
		}
	}
}

func TestReadHubReadsNothingElse(t *testing.T) {
	for _, right := range []string{"32/44.0/45.0/35.0/20.0", "12/20.0/120.0/0.0/50.0"} {
		for i := range len(right) + 1 {
			for _, change := range []string{"", "0", "1", "2", "5", ".", "/", "-", "+", " "} {
				changed := []string{right[:i] + change + right[i:]}
				if i < len(right) {
					changed = append(changed, right[:i]+change+right[i+1:])
				}
				for _, s := range changed {
					h, code := impl.ReadHub(s)
					text, _ := impl.HubText(h)
					if code == impl.ErrNone && text != s || code != impl.ErrNone && (code != impl.ErrSyntax || h != (impl.Hub{})) {
						t.Errorf("ReadHub(%q) = %v, %d, whose text is %q", s, h, code, text)
					}
				}
			}
		}
	}
}
