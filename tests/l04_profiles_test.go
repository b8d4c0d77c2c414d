package tests

import (
	"math"
	"slices"
	"strings"
	"testing"

	"loop.example/g00915/impl"
)

const (
	deepest = impl.MaxDepth
	slowest = impl.MinSpeed
	fastest = impl.MaxSpeed
)

// profile is short for the profile with these depths and speeds.
func profile(depths, speeds []int64) impl.Profile {
	return impl.Profile{Depths: depths, Speeds: speeds}
}

// evenProfile returns a profile with the given distance between knots, of which each has the next
// one of the speeds, which are taken in turn.
func evenProfile(knots, distance int64, speeds ...int64) impl.Profile {
	var p impl.Profile
	for k := range knots {
		p.Depths = append(p.Depths, k*distance)
		p.Speeds = append(p.Speeds, speeds[k%int64(len(speeds))])
	}
	return p
}

// someProfiles returns profiles of 2 to MaxKnots knots, with layers from 1 cm to MaxDepth, and with
// speeds that fall, rise, stay equal, change in both ways, and lie at their limits.
func someProfiles() []impl.Profile {
	return []impl.Profile{
		profile([]int64{0, 1}, []int64{slowest, slowest}),
		profile([]int64{0, 1}, []int64{slowest, fastest}),
		profile([]int64{0, 3}, []int64{1500000, 1499999}),
		profile([]int64{0, 3}, []int64{1499999, 1500000}),
		profile([]int64{0, 7}, []int64{fastest, slowest}),
		profile([]int64{0, deepest}, []int64{slowest, fastest}),
		profile([]int64{0, deepest}, []int64{fastest, slowest}),
		profile([]int64{0, deepest}, []int64{fastest, fastest}),
		profile([]int64{0, deepest}, []int64{1500000, 1500001}),
		profile([]int64{0, deepest - 1}, []int64{fastest, slowest + 1}),
		profile([]int64{0, deepest - 1, deepest}, []int64{slowest, fastest, slowest}),
		profile([]int64{0, 1000, 4000}, []int64{1500000, 1480000, 1510000}),
		profile([]int64{0, 1, 3, 6, 10, 15}, []int64{1500000, 1500007, 1499993, 1499993, 1500000, 1499998}),
		evenProfile(impl.MaxKnots, 1, 1500000),
		evenProfile(impl.MaxKnots, 13, 1500005, 1500000),
		evenProfile(impl.MaxKnots, 90909, slowest, fastest, 1500000, 1499999, 1500001),
		evenProfile(impl.MaxKnots, 11, 1500012, 1500011, 1500010, 1500009, 1500008, 1500007, 1500006, 1500005, 1500004, 1500003, 1500002, 1500001),
		evenProfile(impl.MaxKnots, 17, 1500001, 1500002, 1500003, 1500004, 1500005, 1500006, 1500007, 1500008, 1500009, 1500010, 1500011, 1500012),
	}
}

// invalidProfiles have a wrong number of depths or speeds, depths that do not rise from 0 to at
// most MaxDepth, or a speed beyond the limits.
func invalidProfiles() []impl.Profile {
	return []impl.Profile{
		{},
		profile([]int64{}, []int64{}),
		profile([]int64{0}, []int64{1500000}),
		profile([]int64{0, 1}, nil),
		profile(nil, []int64{1500000, 1500000}),
		profile([]int64{0, 1}, []int64{1500000}),
		profile([]int64{0}, []int64{1500000, 1500000}),
		profile([]int64{0, 1}, []int64{1500000, 1500000, 1500000}),
		profile([]int64{0, 1, 2}, []int64{1500000, 1500000}),
		evenProfile(impl.MaxKnots+1, 1, 1500000),
		profile(evenProfile(impl.MaxKnots+1, 1, 1500000).Depths, evenProfile(impl.MaxKnots, 1, 1500000).Speeds),
		profile(evenProfile(impl.MaxKnots, 1, 1500000).Depths, evenProfile(impl.MaxKnots+1, 1, 1500000).Speeds),
		evenProfile(5000, 1, 1500000),
		profile([]int64{1, 2}, []int64{1500000, 1500000}),
		profile([]int64{-1, 2}, []int64{1500000, 1500000}),
		profile([]int64{-1, 0}, []int64{1500000, 1500000}),
		profile([]int64{0, 0}, []int64{1500000, 1500000}),
		profile([]int64{0, -1}, []int64{1500000, 1500000}),
		profile([]int64{0, 5, 5}, []int64{1500000, 1500000, 1500000}),
		profile([]int64{0, 5, 4}, []int64{1500000, 1500000, 1500000}),
		profile([]int64{0, 5, 0}, []int64{1500000, 1500000, 1500000}),
		profile([]int64{0, deepest + 1}, []int64{1500000, 1500000}),
		profile([]int64{0, deepest, deepest + 1}, []int64{1500000, 1500000, 1500000}),
		profile([]int64{0, math.MaxInt64}, []int64{1500000, 1500000}),
		profile([]int64{math.MinInt64, 0}, []int64{1500000, 1500000}),
		profile([]int64{0, math.MinInt64}, []int64{1500000, 1500000}),
		profile([]int64{0, 1}, []int64{slowest - 1, 1500000}),
		profile([]int64{0, 1}, []int64{1500000, slowest - 1}),
		profile([]int64{0, 1}, []int64{fastest + 1, 1500000}),
		profile([]int64{0, 1}, []int64{1500000, fastest + 1}),
		profile([]int64{0, 1, 2}, []int64{1500000, 0, 1500000}),
		profile([]int64{0, 1, 2}, []int64{1500000, -1500000, 1500000}),
		profile([]int64{0, 1}, []int64{math.MinInt64, math.MaxInt64}),
	}
}

// bottomOf returns the bottom depth of a valid profile.
func bottomOf(p impl.Profile) int64 {
	return p.Depths[len(p.Depths)-1]
}

// someDepths returns all depths of a shallow profile, and of a deep one those at and near its knots
// and in the middle of its layers.
func someDepths(p impl.Profile) []int64 {
	bottom := bottomOf(p)
	var list []int64
	if bottom <= 500 {
		for depth := range bottom + 1 {
			list = append(list, depth)
		}
		return list
	}
	for k, knot := range p.Depths {
		near := []int64{knot - 2, knot - 1, knot, knot + 1, knot + 2}
		if k > 0 {
			last := p.Depths[k-1]
			near = append(near, (last+knot)/2, last+(knot-last)/3, last+(knot-last)*5/7)
		}
		for _, depth := range near {
			if depth >= 0 && depth <= bottom {
				list = append(list, depth)
			}
		}
	}
	return list
}

func sameProfile(p, q impl.Profile) bool {
	return slices.Equal(p.Depths, q.Depths) && slices.Equal(p.Speeds, q.Speeds)
}

func checkNoProfile(t *testing.T, what string, got impl.Profile, code, want int64) {
	t.Helper()
	if len(got.Depths) != 0 || len(got.Speeds) != 0 || code != want {
		t.Errorf("%s = %v, %d, want no profile and code %d", what, got, code, want)
	}
}

func checkNumber(t *testing.T, what string, got, code, want int64) {
	t.Helper()
	if got != want || code != impl.ErrNone {
		t.Errorf("%s = %d, %d, want %d", what, got, code, want)
	}
}

func checkNoNumber(t *testing.T, what string, got, code, want int64) {
	t.Helper()
	if got != 0 || code != want {
		t.Errorf("%s = %d, %d, want no number and code %d", what, got, code, want)
	}
}

func TestValidProfiles(t *testing.T) {
	if impl.MaxKnots != 12 || impl.MaxDepth != 1000000 || impl.MinSpeed != 1300000 || impl.MaxSpeed != 1700000 {
		t.Error("limits of chapter 4")
	}
	for _, p := range someProfiles() {
		if !impl.IsProfile(p) {
			t.Errorf("IsProfile(%v) = false", p)
		}
	}
	for _, p := range invalidProfiles() {
		if impl.IsProfile(p) {
			t.Errorf("IsProfile(%v) = true", p)
		}
	}
}

func TestLayerCases(t *testing.T) {
	p := profile([]int64{0, 1000, 1001, 4000}, []int64{1500000, 1480000, 1480000, 1510000})
	for _, c := range []struct{ depth, want int64 }{
		{0, 0}, {1, 0}, {999, 0}, {1000, 0}, {1001, 1}, {1002, 2}, {2500, 2}, {3999, 2}, {4000, 2},
	} {
		got, code := impl.LayerOf(p, c.depth)
		checkNumber(t, "LayerOf", got, code, c.want)
	}
}

func TestLeastLayerContainsDepth(t *testing.T) {
	for _, p := range someProfiles() {
		for _, depth := range someDepths(p) {
			want := int64(0)
			for p.Depths[want] > depth || p.Depths[want+1] < depth {
				want++
			}
			got, code := impl.LayerOf(p, depth)
			checkNumber(t, "LayerOf", got, code, want)
		}
	}
}

func TestSpeedCases(t *testing.T) {
	falling := profile([]int64{0, 3, 10}, []int64{1500000, 1499999, 1499989})
	rising := profile([]int64{0, 3, 10}, []int64{1499989, 1499990, 1500000})
	even := profile([]int64{0, 7, 8}, []int64{1500000, 1500000, 1500000})
	whole := profile([]int64{0, deepest}, []int64{slowest, fastest})
	for _, c := range []struct {
		p     impl.Profile
		depth int64
		want  impl.Interval
	}{
		{falling, 0, span(1500000, 1500000)}, {falling, 1, span(1499999, 1500000)}, {falling, 2, span(1499999, 1500000)}, {falling, 3, span(1499999, 1499999)},
		{falling, 4, span(1499997, 1499998)}, {falling, 5, span(1499996, 1499997)}, {falling, 9, span(1499990, 1499991)}, {falling, 10, span(1499989, 1499989)},
		{rising, 0, span(1499989, 1499989)}, {rising, 1, span(1499989, 1499990)}, {rising, 2, span(1499989, 1499990)}, {rising, 3, span(1499990, 1499990)},
		{rising, 4, span(1499991, 1499992)}, {rising, 5, span(1499992, 1499993)}, {rising, 9, span(1499998, 1499999)}, {rising, 10, span(1500000, 1500000)},
		{even, 0, span(1500000, 1500000)}, {even, 5, span(1500000, 1500000)}, {even, 7, span(1500000, 1500000)}, {even, 8, span(1500000, 1500000)},
		{whole, 0, span(slowest, slowest)}, {whole, 1, span(slowest, slowest+1)}, {whole, 5, span(slowest+2, slowest+2)},
		{whole, 500000, span(1500000, 1500000)}, {whole, deepest - 1, span(fastest-1, fastest)}, {whole, deepest, span(fastest, fastest)},
	} {
		got, code := impl.SpeedAt(c.p, c.depth)
		checkInterval(t, "SpeedAt", got, code, c.want)
	}
}

// TestSpeedLiesBetweenKnots checks the speed at many depths against the exact one, which is a mean
// of the speeds of both knots, and that the bounds do not leave the layer's speeds.
func TestSpeedLiesBetweenKnots(t *testing.T) {
	for _, p := range someProfiles() {
		for _, depth := range someDepths(p) {
			layer, _ := impl.LayerOf(p, depth)
			u, v := p.Speeds[layer], p.Speeds[layer+1]
			z := p.Depths[layer+1] - p.Depths[layer]
			sum := u*(p.Depths[layer+1]-depth) + v*(depth-p.Depths[layer])
			got, code := impl.SpeedAt(p, depth)
			checkInterval(t, "SpeedAt", got, code, span(floorOf(sum, z), -floorOf(-sum, z)))
			if got.Low < min(u, v) || got.High > max(u, v) {
				t.Errorf("SpeedAt(%v, %d) = %v is not between %d and %d", p, depth, got, u, v)
			}
		}
		for k, depth := range p.Depths {
			got, code := impl.SpeedAt(p, depth)
			checkInterval(t, "SpeedAt a knot", got, code, span(p.Speeds[k], p.Speeds[k]))
		}
	}
}

func TestDepthErrors(t *testing.T) {
	for _, p := range someProfiles() {
		bottom := bottomOf(p)
		for _, depth := range []int64{-1, bottom + 1, -deepest, deepest + 1, math.MinInt64, math.MaxInt64} {
			layer, code := impl.LayerOf(p, depth)
			checkNoNumber(t, "LayerOf", layer, code, impl.ErrRange)
			speed, code := impl.SpeedAt(p, depth)
			checkNoInterval(t, "SpeedAt", speed, code, impl.ErrRange)
		}
	}
}

func TestGradientCases(t *testing.T) {
	p := profile([]int64{0, 1000, 4000, 4001, 4004}, []int64{1500000, 1480000, 1510000, 1510000, 1509998})
	for layer, want := range []impl.Ratio{ratio(-20, 1), ratio(10, 1), ratio(0, 1), ratio(-2, 3)} {
		got, code := impl.GradientOf(p, int64(layer))
		checkRatio(t, "GradientOf", got, code, want)
	}
	for _, c := range []struct {
		depth, upper, lower int64
		want                impl.Ratio
	}{
		{1, slowest, fastest, ratio(400000, 1)}, {1, fastest, slowest, ratio(-400000, 1)},
		{deepest, slowest, fastest, ratio(2, 5)}, {deepest, fastest, slowest, ratio(-2, 5)},
		{deepest, slowest, slowest + 1, ratio(1, deepest)}, {deepest, slowest + 1, slowest, ratio(-1, deepest)},
		{deepest, fastest, fastest, ratio(0, 1)}, {deepest - 1, fastest, slowest + 1, ratio(-399999/3, (deepest-1)/3)},
	} {
		got, code := impl.GradientOf(profile([]int64{0, c.depth}, []int64{c.upper, c.lower}), 0)
		checkRatio(t, "GradientOf", got, code, c.want)
	}
}

func TestGradientsAndLayerErrors(t *testing.T) {
	for _, p := range someProfiles() {
		last := int64(len(p.Depths)) - 2
		for layer := range last + 1 {
			got, code := impl.GradientOf(p, layer)
			rise, z := p.Speeds[layer+1]-p.Speeds[layer], p.Depths[layer+1]-p.Depths[layer]
			if !impl.IsRatio(got) || got.Num*z != rise*got.Den || code != impl.ErrNone {
				t.Errorf("GradientOf(%v, %d) = %v, %d", p, layer, got, code)
			}
		}
		for _, layer := range []int64{-1, last + 1, last + 2, impl.MaxKnots, math.MinInt64, math.MaxInt64} {
			got, code := impl.GradientOf(p, layer)
			checkNoRatio(t, "GradientOf", got, code, impl.ErrRange)
		}
	}
}

func TestAxisCases(t *testing.T) {
	for _, c := range []struct {
		speeds []int64
		want   int64
	}{
		{[]int64{1500000, 1480000, 1510000}, 1},
		{[]int64{1500000, 1500000}, 0},
		{[]int64{fastest, fastest, fastest}, 0},
		{[]int64{slowest, slowest, slowest}, 0},
		{[]int64{1500000, 1500001}, 0},
		{[]int64{1500001, 1500000}, 1},
		{[]int64{1500002, 1500001, 1500000}, 2},
		{[]int64{1500001, 1500000, 1500000, 1500002}, 1},
		{[]int64{1500000, 1500001, 1500000}, 0},
		{[]int64{fastest, 1500000, fastest, slowest, 1500000, slowest}, 3},
	} {
		got, code := impl.AxisOf(evenProfile(int64(len(c.speeds)), 10, c.speeds...))
		checkNumber(t, "AxisOf", got, code, c.want)
	}
	for _, p := range someProfiles() {
		got, code := impl.AxisOf(p)
		checkNumber(t, "AxisOf", got, code, int64(slices.Index(p.Speeds, slices.Min(p.Speeds))))
	}
}

func TestFastestCases(t *testing.T) {
	p := evenProfile(6, 10, 1500000, 1480000, 1510000, 1509999, slowest, fastest)
	for knot, want := range []int64{1500000, 1500000, 1510000, 1510000, 1510000, fastest} {
		got, code := impl.FastestTo(p, int64(knot))
		checkNumber(t, "FastestTo", got, code, want)
	}
	low := evenProfile(2, 10, slowest)
	for knot := range int64(2) {
		got, code := impl.FastestTo(low, knot)
		checkNumber(t, "FastestTo", got, code, slowest)
	}
}

func TestFastestAndKnotErrors(t *testing.T) {
	for _, p := range someProfiles() {
		count := int64(len(p.Depths))
		for knot := range count {
			got, code := impl.FastestTo(p, knot)
			checkNumber(t, "FastestTo", got, code, slices.Max(p.Speeds[:knot+1]))
		}
		for _, knot := range []int64{-1, count, count + 1, impl.MaxKnots, math.MinInt64, math.MaxInt64} {
			got, code := impl.FastestTo(p, knot)
			checkNoNumber(t, "FastestTo", got, code, impl.ErrRange)
			cut, code := impl.CutProfile(p, knot)
			checkNoProfile(t, "CutProfile", cut, code, impl.ErrRange)
		}
	}
}

func TestCutProfiles(t *testing.T) {
	for _, p := range someProfiles() {
		cut, code := impl.CutProfile(p, 0)
		checkNoProfile(t, "CutProfile at the surface", cut, code, impl.ErrState)
		for knot := 1; knot < len(p.Depths); knot++ {
			cut, code := impl.CutProfile(p, int64(knot))
			if !sameProfile(cut, profile(p.Depths[:knot+1], p.Speeds[:knot+1])) || !impl.IsProfile(cut) || code != impl.ErrNone {
				t.Errorf("CutProfile(%v, %d) = %v, %d", p, knot, cut, code)
			}
		}
	}
}

// fill writes a number into all of a list, its spare capacity too.
func fill(list []int64, x int64) {
	list = list[:cap(list)]
	for i := range list {
		list[i] = x
	}
}

// TestCutProfilesShareNothing checks that the cut profile is memory of its own, also where one list
// holds both depths and speeds, and also where all knots are kept.
func TestCutProfilesShareNothing(t *testing.T) {
	for knot := int64(1); knot <= 2; knot++ {
		memory := []int64{0, 1000, 4000, 1500000, 1480000, 1510000, 7, 7}
		before := slices.Clone(memory)
		p := profile(memory[:3], memory[3:6])
		cut, _ := impl.CutProfile(p, knot)
		if !slices.Equal(memory, before) {
			t.Errorf("CutProfile changed its argument to %v", memory)
		}
		fill(cut.Depths, 1)
		if !slices.Equal(cut.Speeds, p.Speeds[:knot+1]) {
			t.Errorf("the depths of CutProfile share memory with its speeds %v", cut.Speeds)
		}
		fill(cut.Speeds, 2)
		if !slices.Equal(memory, before) {
			t.Errorf("CutProfile shares memory with its argument, now %v", memory)
		}
	}
}

func TestReadProfilesShareNothing(t *testing.T) {
	const text = "0:1500000,1000:1480000"
	p, _ := impl.ReadProfile(text)
	fill(p.Depths, 1)
	if !slices.Equal(p.Speeds, []int64{1500000, 1480000}) {
		t.Errorf("the depths of ReadProfile share memory with its speeds %v", p.Speeds)
	}
	fill(p.Speeds, 2)
	if again, ok := impl.ReadProfile(text); !sameProfile(again, profile([]int64{0, 1000}, []int64{1500000, 1480000})) || !ok {
		t.Errorf("ReadProfile = %v, %v at the second time", again, ok)
	}
}

// TestProfilesStayAsTheyAre checks that no function changes a profile or what lies behind it.
func TestProfilesStayAsTheyAre(t *testing.T) {
	for _, p := range append(someProfiles(), invalidProfiles()...) {
		depths, speeds := append(slices.Clone(p.Depths), 8, 8, 8), append(slices.Clone(p.Speeds), 9, 9, 9)
		wasDepths, wasSpeeds := slices.Clone(depths), slices.Clone(speeds)
		q := profile(depths[:len(p.Depths)], speeds[:len(p.Speeds)])
		impl.IsProfile(q)
		impl.AxisOf(q)
		impl.ProfileText(q)
		for _, x := range []int64{-1, 0, 1, 2, impl.MaxKnots - 1} {
			impl.LayerOf(q, x)
			impl.SpeedAt(q, x)
			impl.GradientOf(q, x)
			impl.FastestTo(q, x)
			impl.CutProfile(q, x)
		}
		if !slices.Equal(depths, wasDepths) || !slices.Equal(speeds, wasSpeeds) {
			t.Errorf("%v was changed to %v", p, q)
		}
	}
}

// TestInvalidProfiles checks that validity is checked before everything else.
func TestInvalidProfiles(t *testing.T) {
	for _, p := range invalidProfiles() {
		for _, x := range []int64{0, 1, 2, -1, impl.MaxKnots, deepest + 1, math.MinInt64, math.MaxInt64} {
			layer, code := impl.LayerOf(p, x)
			checkNoNumber(t, "LayerOf", layer, code, impl.ErrInvalid)
			speed, code := impl.SpeedAt(p, x)
			checkNoInterval(t, "SpeedAt", speed, code, impl.ErrInvalid)
			gradient, code := impl.GradientOf(p, x)
			checkNoRatio(t, "GradientOf", gradient, code, impl.ErrInvalid)
			most, code := impl.FastestTo(p, x)
			checkNoNumber(t, "FastestTo", most, code, impl.ErrInvalid)
			cut, code := impl.CutProfile(p, x)
			checkNoProfile(t, "CutProfile", cut, code, impl.ErrInvalid)
		}
		axis, code := impl.AxisOf(p)
		checkNoNumber(t, "AxisOf", axis, code, impl.ErrInvalid)
		if got := impl.ProfileText(p); got != "" {
			t.Errorf("ProfileText(%v) = %q", p, got)
		}
	}
}

func TestProfileTexts(t *testing.T) {
	for _, c := range []struct {
		p    impl.Profile
		want string
	}{
		{profile([]int64{0, 1000, 4000}, []int64{1500000, 1480000, 1510000}), "0:1500000,1000:1480000,4000:1510000"},
		{profile([]int64{0, 1}, []int64{slowest, fastest}), "0:1300000,1:1700000"},
		{profile([]int64{0, deepest}, []int64{fastest, slowest}), "0:1700000,1000000:1300000"},
		{evenProfile(impl.MaxKnots, 1, 1500000), "0:1500000,1:1500000,2:1500000,3:1500000,4:1500000,5:1500000,6:1500000,7:1500000,8:1500000,9:1500000,10:1500000,11:1500000"},
	} {
		if got := impl.ProfileText(c.p); got != c.want {
			t.Errorf("ProfileText(%v) = %q", c.p, got)
		}
		if got, ok := impl.ReadProfile(c.want); !sameProfile(got, c.p) || !ok {
			t.Errorf("ReadProfile(%q) = %v, %v", c.want, got, ok)
		}
	}
	for _, p := range someProfiles() {
		if got, ok := impl.ReadProfile(impl.ProfileText(p)); !sameProfile(got, p) || !ok {
			t.Errorf("%v is read as %v, %v from %q", p, got, ok, impl.ProfileText(p))
		}
	}
}

func TestTextsOfNoProfile(t *testing.T) {
	tooMany := impl.ProfileText(evenProfile(impl.MaxKnots, 1, 1500000)) + ",12:1500000"
	for _, s := range []string{
		"", ",", ":", ":,:", "0", "0:", ":1500000", "0:1500000", "0:1500000,", ",0:1500000", "0:1500000,5", "0:1500000,5:", "0:1500000,:1500000", "0,5",
		",0:1500000,5:1500000", "0:1500000,5:1500000,", "0:1500000,,5:1500000", "0:1500000;5:1500000", "0:1500000 5:1500000", "0:1500000:5:1500000",
		"0:1500000,5:1500000:", "0:1500000,5:1500000:6", "0::1500000,5:1500000", ":0:1500000,5:1500000", "0-1500000,5-1500000", "0.0:1500000,5:1500000",
		"0:1500000,0:1500000", "0:1500000,5:1500000,5:1500000", "5:1500000,0:1500000", "0:1500000,5:1500000,4:1500000", "1:1500000,5:1500000", "-1:1500000,5:1500000", "0:1500000,-5:1500000",
		"0:1299999,5:1500000", "0:1500000,5:1700001", "0:-1500000,5:1500000", "0:1500000,1000001:1500000", "0:150000,5:1500000", "0:1500000,5:15000000",
		"00:1500000,5:1500000", "-0:1500000,5:1500000", "+0:1500000,5:1500000", "0:01500000,5:1500000", "0:+1500000,5:1500000", "0:1500000,05:1500000", "0:1500000,+5:1500000",
		" 0:1500000,5:1500000", "0:1500000,5:1500000 ", "0: 1500000,5:1500000", "0:1500000, 5:1500000", "0:1500000 ,5:1500000", "0:1500000,5:1500000\n", "0:1500000,5:1500000\x00",
		"0:1_500_000,5:1500000", "0:15e5,5:1500000", "0x0:1500000,5:1500000", "0:1500000,\u0665:1500000", "a:b,c:d", "0:1500000\uff0c5:1500000",
		"0:1500000,9223372036854775808:1500000", "0:1500000,18446744073709551621:1500000", "0:18446744073711051616,5:1500000", "0:9223372036854775807,5:1500000",
		tooMany, strings.Repeat("0:1500000,", 5000) + "5:1500000", "0:1500000," + strings.Repeat("9", 5000) + ":1500000", "0:1500000,5:" + strings.Repeat("0", 5000) + "1500000",
	} {
		if p, ok := impl.ReadProfile(s); ok || len(p.Depths) != 0 || len(p.Speeds) != 0 {
			t.Errorf("ReadProfile(%q) = %v, %v", s, p, ok)
		}
	}
}
