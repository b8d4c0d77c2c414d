package tests

import (
	"math"
	"math/big"
	"slices"
	"testing"

	"loop.example/g00915/impl"
)

const greatestHyp = impl.MaxHyp

// direction is short for the direction with these numbers.
func direction(cosine, sine, hyp int64) impl.Direction {
	return impl.Direction{Cos: cosine, Sin: sine, Hyp: hyp}
}

// someDirections returns all directions that are made of numbers below 32, which go down and up,
// and others, among them the steepest and flattest ones that there are.
func someDirections() []impl.Direction {
	list := []impl.Direction{
		direction(3, 4, 5), direction(4, -3, 5), direction(24, 7, 25), direction(7, -24, 25),
		direction(43, 924, 925), direction(924, -43, 925), direction(60, 899, 901), direction(899, 60, 901),
		direction(925, 372, 997), direction(372, -925, 997), direction(527, 336, 625), direction(336, -527, 625),
	}
	for n := int64(2); n < 32; n++ {
		for m := int64(1); m < n; m++ {
			if d, code := impl.MakeDirection(m, n, (m+n)%3 > 0); code == impl.ErrNone {
				list = append(list, d)
			}
		}
	}
	return list
}

// invalidDirections have a number beyond its limits, lie not on a circle, or have a common divisor.
var invalidDirections = []impl.Direction{
	{}, {Cos: 1, Hyp: 1}, {Sin: 1, Hyp: 1}, {Sin: -1, Hyp: 1}, {Cos: -1, Hyp: 1}, {Cos: 1, Sin: 1, Hyp: 1}, {Cos: 1, Sin: 1, Hyp: 2},
	{Cos: 5, Hyp: 5}, {Sin: 5, Hyp: 5}, {Cos: 3, Sin: 4}, {Cos: 3, Sin: 4, Hyp: -5}, {Cos: -3, Sin: 4, Hyp: 5}, {Cos: -3, Sin: -4, Hyp: 5},
	{Cos: 3, Sin: 4, Hyp: 4}, {Cos: 3, Sin: 4, Hyp: 6}, {Cos: 3, Sin: 5, Hyp: 5}, {Cos: 2, Sin: 4, Hyp: 5}, {Cos: 3, Sin: -5, Hyp: 5}, {Cos: 5, Sin: 3, Hyp: 4}, {Cos: 3, Sin: 5, Hyp: 4},
	{Cos: 6, Sin: 8, Hyp: 10}, {Cos: 6, Sin: -8, Hyp: 10}, {Cos: 9, Sin: 12, Hyp: 15}, {Cos: 15, Sin: -20, Hyp: 25}, {Cos: 600, Sin: 800, Hyp: 1000}, {Cos: 280, Sin: -960, Hyp: 1000},
	// One beyond MaxHyp there are only multiples; the least direction beyond it has the Hyp 1009.
	{Cos: 385, Sin: 924, Hyp: 1001}, {Cos: 1001, Sin: 1, Hyp: 1001}, {Cos: 559, Sin: 840, Hyp: 1009}, {Cos: 840, Sin: -559, Hyp: 1009}, {Cos: 1000, Sin: 1, Hyp: 1000},
	// Wraparound of squares in 64 bits must not count.
	{Cos: 3 + math.MinInt64, Sin: 4, Hyp: 5}, {Cos: 3, Sin: 4 + 1<<32, Hyp: 5}, {Cos: 3 + 1<<32, Sin: 4, Hyp: 5}, {Cos: 3, Sin: 4, Hyp: 5 + 1<<32}, {Cos: 3, Sin: 4 + math.MinInt64, Hyp: 5}, {Cos: 3, Sin: 4, Hyp: 5 + math.MinInt64},
	{Cos: 1 << 62, Sin: 1 << 62, Hyp: 1 << 62}, {Cos: 1, Sin: math.MinInt64, Hyp: 1}, {Cos: 1, Sin: 1 << 32, Hyp: 1}, {Cos: 1 << 32, Sin: 1, Hyp: 1}, {Cos: math.MaxInt64, Sin: math.MaxInt64, Hyp: math.MaxInt64},
	{Cos: math.MinInt64, Sin: math.MinInt64, Hyp: math.MinInt64}, {Cos: 1, Sin: 1, Hyp: math.MinInt64}, {Cos: 3, Sin: math.MinInt64, Hyp: 5}, {Cos: 3, Sin: math.MaxInt64, Hyp: 5},
}

// someSpeeds returns profiles, beside those of chapter 4, that the directions above only just cross
// or do not: 1700000 and 1625000 are 5/4 of 1360000 and of the least speed.
func someSpeeds() []impl.Profile {
	return append(someProfiles(),
		evenProfile(4, 10, 1360000, fastest-1, fastest, slowest),
		evenProfile(5, 100, slowest, 1624999, 1625000, 1625001, 1360000),
		evenProfile(6, 7, fastest, 1600000, 1599999, 1500000, 1400000, slowest),
		evenProfile(3, 1000, 1600000, 1600001, 1599999),
	)
}

func scaleOf(p impl.Profile, source int64, d impl.Direction) int64 {
	return d.Hyp * p.Speeds[source]
}

func cosineOf(p impl.Profile, d impl.Direction, knot int64) int64 {
	return d.Cos * p.Speeds[knot]
}

func crosses(p impl.Profile, source int64, d impl.Direction, knot int64) bool {
	return cosineOf(p, d, knot) < scaleOf(p, source, d)
}

func knotsOf(p impl.Profile) int64 {
	return int64(len(p.Depths))
}

// notKnots returns numbers that are not those of a knot of p.
func notKnots(p impl.Profile) []int64 {
	return []int64{-1, knotsOf(p), knotsOf(p) + 1, impl.MaxKnots, math.MinInt64, math.MaxInt64}
}

func checkDirection(t *testing.T, what string, got impl.Direction, code int64, want impl.Direction) {
	t.Helper()
	if got != want || code != impl.ErrNone {
		t.Errorf("%s = %v, %d, want %v", what, got, code, want)
	}
}

func checkNoDirection(t *testing.T, what string, got impl.Direction, code, want int64) {
	t.Helper()
	if got != (impl.Direction{}) || code != want {
		t.Errorf("%s = %v, %d, want no direction and code %d", what, got, code, want)
	}
}

func checkList(t *testing.T, what string, got []int64, code int64, want []int64) {
	t.Helper()
	if !slices.Equal(got, want) || code != impl.ErrNone {
		t.Errorf("%s = %v, %d, want %v", what, got, code, want)
	}
}

func checkNoList(t *testing.T, what string, got []int64, code, want int64) {
	t.Helper()
	if len(got) != 0 || code != want {
		t.Errorf("%s = %v, %d, want no list and code %d", what, got, code, want)
	}
}

func checkNoBool(t *testing.T, what string, got bool, code, want int64) {
	t.Helper()
	if got || code != want {
		t.Errorf("%s = %v, %d, want false and code %d", what, got, code, want)
	}
}

func TestValidDirections(t *testing.T) {
	if impl.MaxHyp != 1000 {
		t.Error("MaxHyp")
	}
	for _, d := range someDirections() {
		if !impl.IsDirection(d) {
			t.Errorf("IsDirection(%v) = false", d)
		}
	}
	for _, d := range invalidDirections {
		if impl.IsDirection(d) {
			t.Errorf("IsDirection(%v) = true", d)
		}
	}
}

// TestAllDirections compares validity with its definition, for each Cos and Hyp up to one beyond
// MaxHyp with the only sines that can be right, and with those next to them.
func TestAllDirections(t *testing.T) {
	found := 0
	for hyp := int64(0); hyp <= greatestHyp+1; hyp++ {
		for cosine := int64(0); cosine <= hyp+1; cosine++ {
			square := hyp*hyp - cosine*cosine
			root := new(big.Int).Sqrt(big.NewInt(max(square, 0))).Int64()
			common := new(big.Int).GCD(nil, nil, big.NewInt(cosine), big.NewInt(hyp)).Int64()
			for _, sine := range []int64{root, -root, root + 1, -root - 1} {
				want := hyp >= 1 && hyp <= greatestHyp && cosine >= 1 && sine != 0 && sine*sine == square && common == 1
				if got := impl.IsDirection(direction(cosine, sine, hyp)); got != want {
					t.Errorf("IsDirection(%v) = %v", direction(cosine, sine, hyp), got)
				}
				if want {
					found++
				}
			}
		}
	}
	// There are 158 primitive triples up to 1000; each gives four directions.
	if found != 4*158 {
		t.Errorf("%d directions", found)
	}
}

func TestMadeDirections(t *testing.T) {
	for _, c := range []struct {
		m, n int64
		down bool
		want impl.Direction
	}{
		{1, 2, true, direction(3, 4, 5)},
		{1, 2, false, direction(3, -4, 5)},
		{2, 3, true, direction(5, 12, 13)},
		{1, 3, true, direction(4, 3, 5)},   // 8, 6, 10
		{1, 3, false, direction(4, -3, 5)}, // the sign stays in lowest terms
		{2, 4, true, direction(3, 4, 5)},   // 12, 16, 20
		{3, 6, false, direction(3, -4, 5)}, // 27, 36, 45
		{3, 9, true, direction(4, 3, 5)},   // 72, 54, 90
		{1, 31, true, direction(480, 31, 481)},
		{6, 31, true, direction(925, 372, 997)}, // the greatest Hyp that is made
		{21, 22, true, direction(43, 924, 925)}, // m at n - 1
		{10, 30, true, direction(4, 3, 5)},      // n * n + m * m at MaxHyp
		{10, 30, false, direction(4, -3, 5)},
		{18, 26, true, direction(44, 117, 125)},
	} {
		got, code := impl.MakeDirection(c.m, c.n, c.down)
		checkDirection(t, "MakeDirection", got, code, c.want)
	}
}

func TestMakeDirectionErrors(t *testing.T) {
	for _, c := range [][2]int64{
		{0, 0}, {0, 1}, {0, 2}, {0, 31}, {1, 1}, {1, 0}, {2, 1}, {2, 2}, {5, 5}, {22, 22}, {-1, 2}, {-2, -1}, {-1, 0}, {-1, 1}, {1, -2}, {1, -1},
		// Beyond MaxHyp; of 1009 and 1010 the last one is 505 in lowest terms, and that of 1040 is 13.
		{15, 28}, {7, 31}, {13, 29}, {1, 32}, {16, 28}, {22, 23}, {1, 1000}, {999, 1000}, {1, 1001}, {20, 40}, {500, 1000},
		{1, 1 << 31}, {1, 1 << 32}, {1 << 32, 1 << 33}, {1 << 31, 1<<31 + 1}, {1, math.MaxInt64}, {math.MaxInt64 - 1, math.MaxInt64}, {math.MaxInt64, math.MaxInt64},
		{math.MinInt64, 2}, {1, math.MinInt64}, {math.MinInt64, math.MaxInt64}, {math.MinInt64, math.MinInt64}, {math.MaxInt64, math.MinInt64},
	} {
		for _, down := range []bool{true, false} {
			got, code := impl.MakeDirection(c[0], c[1], down)
			checkNoDirection(t, "MakeDirection", got, code, impl.ErrRange)
		}
	}
}

func TestAllMadeDirections(t *testing.T) {
	for n := int64(-1); n <= 40; n++ {
		for m := int64(-1); m <= n+1; m++ {
			for _, down := range []bool{true, false} {
				got, code := impl.MakeDirection(m, n, down)
				hyp := n*n + m*m
				if m < 1 || m > n-1 || hyp > greatestHyp {
					checkNoDirection(t, "MakeDirection", got, code, impl.ErrRange)
					continue
				}
				isRatio := got.Cos*hyp == got.Hyp*(n*n-m*m) && max(got.Sin, -got.Sin)*hyp == got.Hyp*2*m*n
				if !impl.IsDirection(got) || !isRatio || (got.Sin > 0) != down || code != impl.ErrNone {
					t.Errorf("MakeDirection(%d, %d, %v) = %v, %d", m, n, down, got, code)
				}
			}
		}
	}
}

func TestMirroredDirections(t *testing.T) {
	for _, d := range someDirections() {
		got, code := impl.MirrorDirection(d)
		checkDirection(t, "MirrorDirection", got, code, direction(d.Cos, -d.Sin, d.Hyp))
	}
	for _, d := range invalidDirections {
		got, code := impl.MirrorDirection(d)
		checkNoDirection(t, "MirrorDirection", got, code, impl.ErrInvalid)
	}
}

func TestDirectionOrder(t *testing.T) {
	for _, c := range []struct {
		d, e impl.Direction
		want int64
	}{
		{direction(4, 3, 5), direction(3, 4, 5), 1}, {direction(4, -3, 5), direction(3, 4, 5), 1}, {direction(3, 4, 5), direction(4, -3, 5), -1}, {direction(3, -4, 5), direction(4, 3, 5), -1},
		{direction(3, 4, 5), direction(3, 4, 5), 0}, {direction(3, -4, 5), direction(3, 4, 5), 0}, {direction(3, 4, 5), direction(3, -4, 5), 0},
		{direction(4, 3, 5), direction(24, 7, 25), -1}, {direction(24, -7, 25), direction(899, 60, 901), -1}, {direction(924, 43, 925), direction(899, 60, 901), 1},
	} {
		got, code := impl.CompareDirections(c.d, c.e)
		checkNumber(t, "CompareDirections", got, code, c.want)
	}
	for _, d := range someDirections() {
		for _, e := range someDirections() {
			want := int64(big.NewRat(d.Cos, d.Hyp).Cmp(big.NewRat(e.Cos, e.Hyp)))
			got, code := impl.CompareDirections(d, e)
			checkNumber(t, "CompareDirections", got, code, want)
		}
	}
	for _, d := range invalidDirections {
		for _, e := range []impl.Direction{d, direction(3, 4, 5), direction(4, -3, 5)} {
			got, code := impl.CompareDirections(d, e)
			checkNoNumber(t, "CompareDirections", got, code, impl.ErrInvalid)
			got, code = impl.CompareDirections(e, d)
			checkNoNumber(t, "CompareDirections", got, code, impl.ErrInvalid)
		}
	}
}

// TestJustCrossedKnots has speeds that are just below, at and above the one at which the ray turns.
func TestJustCrossedKnots(t *testing.T) {
	p := evenProfile(6, 10, 1360000, fastest-1, fastest, slowest, 1360000, 1360001)
	q := evenProfile(5, 10, slowest, 1624999, 1625000, 1625001, fastest)
	flat := direction(924, -43, 925)
	for _, c := range []struct {
		p      impl.Profile
		source int64
		d      impl.Direction
		want   []bool
	}{
		{p, 0, direction(4, 3, 5), []bool{true, true, false, true, true, true}},
		{p, 4, direction(4, -3, 5), []bool{true, true, false, true, true, true}},
		{p, 5, direction(4, -3, 5), []bool{true, true, true, true, true, true}},
		{p, 3, direction(4, 3, 5), []bool{true, false, false, true, true, true}},
		{p, 0, direction(24, 7, 25), []bool{true, false, false, true, true, true}},
		{p, 2, direction(899, 60, 901), []bool{true, true, true, true, true, true}},
		{q, 0, direction(4, 3, 5), []bool{true, true, false, false, false}},
		{q, 0, direction(3, -4, 5), []bool{true, true, true, true, true}},
		{q, 1, direction(899, 60, 901), []bool{true, true, true, true, false}},
		{q, 0, flat, []bool{true, false, false, false, false}},
	} {
		for knot, want := range c.want {
			got, code := impl.CanCross(c.p, c.source, c.d, int64(knot))
			if got != want || code != impl.ErrNone {
				t.Errorf("CanCross(%v, %d, %v, %d) = %v, %d", c.p, c.source, c.d, knot, got, code)
			}
		}
	}
}

func TestSineCases(t *testing.T) {
	p := evenProfile(4, 10, 1360000, fastest-1, fastest, slowest)
	for _, c := range []struct {
		source int64
		d      impl.Direction
		knot   int64
		want   impl.Interval
	}{
		{0, direction(4, 3, 5), 0, span(4080000, 4080000)},
		{0, direction(4, -3, 5), 0, span(4080000, 4080000)}, // the scaled sine has no sign
		{0, direction(4, 3, 5), 1, span(7375, 7376)},        // the root of 6800000^2 - 6799996^2 = 54399984
		{0, direction(4, 3, 5), 3, span(4381780, 4381781)},
		{2, direction(3, 4, 5), 2, span(6800000, 6800000)},
	} {
		got, code := impl.SineAt(p, c.source, c.d, c.knot)
		checkInterval(t, "SineAt", got, code, c.want)
	}
	got, code := impl.SineAt(p, 0, direction(4, 3, 5), 2)
	checkNoInterval(t, "SineAt where the ray is horizontal", got, code, impl.ErrState)
	got, code = impl.SineAt(p, 3, direction(4, 3, 5), 1)
	checkNoInterval(t, "SineAt beyond the turn", got, code, impl.ErrState)
}

// TestSquareOfSineLiesBetween checks that the bounds are the integers next to the root, or the root
// itself, of the exact square, and that no sine is told where a ray does not come.
func TestSquareOfSineLiesBetween(t *testing.T) {
	for _, p := range someSpeeds() {
		for _, d := range someDirections() {
			for source := range knotsOf(p) {
				for knot := range knotsOf(p) {
					want := crosses(p, source, d, knot)
					if got, code := impl.CanCross(p, source, d, knot); got != want || code != impl.ErrNone {
						t.Errorf("CanCross(%v, %d, %v, %d) = %v, %d", p, source, d, knot, got, code)
					}
					got, code := impl.SineAt(p, source, d, knot)
					if !want {
						checkNoInterval(t, "SineAt", got, code, impl.ErrState)
						continue
					}
					checkSine(t, got, code, scaleOf(p, source, d), cosineOf(p, d, knot))
				}
			}
		}
	}
}

// checkSine checks bounds of the root of the difference of two squares, which 64 bits hold.
func checkSine(t *testing.T, got impl.Interval, code, scale, cosine int64) {
	t.Helper()
	square := scale*scale - cosine*cosine
	isRoot := got.Low*got.Low <= square && square <= got.High*got.High
	isRoot = isRoot && got.High-got.Low <= 1 && (got.Low == got.High) == (got.Low*got.Low == square)
	if !isRoot || got.Low < 1 || code != impl.ErrNone {
		t.Errorf("SineAt = %v, %d is not the root of %d", got, code, square)
	}
}

func TestFlatterRaysCrossNoMoreKnots(t *testing.T) {
	for _, p := range someSpeeds() {
		for source := range knotsOf(p) {
			for _, flatter := range someDirections()[:12] {
				for _, d := range someDirections() {
					if order, _ := impl.CompareDirections(flatter, d); order != 1 {
						continue
					}
					for knot := range knotsOf(p) {
						more, _ := impl.CanCross(p, source, flatter, knot)
						if ok, _ := impl.CanCross(p, source, d, knot); more && !ok {
							t.Errorf("%v crosses knot %d of %v from %d, but %v does not", flatter, knot, p, source, d)
						}
					}
				}
			}
		}
	}
}

func TestTurningSpeeds(t *testing.T) {
	for _, c := range []struct {
		c    int64
		d    impl.Direction
		want impl.Ratio
	}{
		{1360000, direction(4, 3, 5), ratio(fastest, 1)}, {1360000, direction(4, -3, 5), ratio(fastest, 1)}, {1500000, direction(3, 4, 5), ratio(2500000, 1)},
		{1500001, direction(3, 4, 5), ratio(7500005, 3)}, {slowest, direction(925, 372, 997), ratio(51844000, 37)},
		{1600000, direction(527, 336, 625), ratio(term, 527)}, // just valid
		{1599999, direction(527, -336, 625), ratio(999999375, 527)},
	} {
		got, code := impl.TurningSpeed(evenProfile(2, 10, c.c), 1, c.d)
		checkRatio(t, "TurningSpeed", got, code, c.want)
	}
	for _, c := range []struct {
		c int64
		d impl.Direction
	}{
		{1600001, direction(527, 336, 625)}, {1600002, direction(527, -336, 625)}, {slowest + 1, direction(925, 372, 997)}, {fastest, direction(899, 60, 901)}, {fastest - 1, direction(43, 924, 925)},
	} {
		got, code := impl.TurningSpeed(evenProfile(2, 10, c.c), 0, c.d)
		checkNoRatio(t, "TurningSpeed", got, code, impl.ErrLimit)
	}
}

func TestTurningSpeedsAreExact(t *testing.T) {
	for _, p := range someSpeeds() {
		for _, d := range someDirections() {
			for source := range knotsOf(p) {
				exact := big.NewRat(scaleOf(p, source, d), d.Cos)
				got, code := impl.TurningSpeed(p, source, d)
				if exact.Num().Cmp(big.NewInt(term)) > 0 {
					checkNoRatio(t, "TurningSpeed", got, code, impl.ErrLimit)
					continue
				}
				checkRatio(t, "TurningSpeed", got, code, ratio(exact.Num().Int64(), exact.Denom().Int64()))
			}
		}
	}
}

func TestOpenLayerCases(t *testing.T) {
	p := evenProfile(6, 10, 1360000, fastest-1, fastest, slowest, 1360000, 1360001)
	zigzag := evenProfile(6, 10, slowest, fastest)
	for _, c := range []struct {
		p      impl.Profile
		source int64
		d      impl.Direction
		want   []int64
	}{
		{p, 0, direction(4, 3, 5), []int64{0, 3, 4}}, // also layers that the ray does not come to
		{p, 5, direction(4, 3, 5), []int64{0, 1, 2, 3, 4}},
		{p, 3, direction(4, -3, 5), []int64{3, 4}},
		{p, 3, direction(924, 43, 925), nil},
		{p, 2, direction(924, 43, 925), []int64{0, 1, 2, 3, 4}},
		{zigzag, 0, direction(4, 3, 5), nil},
		{zigzag, 2, direction(899, -60, 901), nil},
		{zigzag, 1, direction(899, -60, 901), []int64{0, 1, 2, 3, 4}},
		{evenProfile(2, 1, 1500000), 0, direction(899, 60, 901), []int64{0}},
		{evenProfile(impl.MaxKnots, 1, 1500000), 11, direction(899, 60, 901), []int64{0, 1, 2, 3, 4, 5, 6, 7, 8, 9, 10}},
	} {
		got, code := impl.LayersOpen(c.p, c.source, c.d)
		checkList(t, "LayersOpen", got, code, c.want)
	}
}

func TestOpenLayers(t *testing.T) {
	for _, p := range someSpeeds() {
		for _, d := range someDirections() {
			for source := range knotsOf(p) {
				var want []int64
				for layer := range knotsOf(p) - 1 {
					if crosses(p, source, d, layer) && crosses(p, source, d, layer+1) {
						want = append(want, layer)
					}
				}
				got, code := impl.LayersOpen(p, source, d)
				checkList(t, "LayersOpen", got, code, want)
			}
		}
	}
}

// checkNoRay checks the functions of chapter 5 that take a ray at a knot.
func checkNoRay(t *testing.T, p impl.Profile, source int64, d impl.Direction, knot, want int64) {
	t.Helper()
	crossed, code := impl.CanCross(p, source, d, knot)
	checkNoBool(t, "CanCross", crossed, code, want)
	sine, code := impl.SineAt(p, source, d, knot)
	checkNoInterval(t, "SineAt", sine, code, want)
}

// checkNoSource checks the functions of chapter 5 that take a ray at its source alone.
func checkNoSource(t *testing.T, p impl.Profile, source int64, d impl.Direction, want int64) {
	t.Helper()
	speed, code := impl.TurningSpeed(p, source, d)
	checkNoRatio(t, "TurningSpeed", speed, code, want)
	open, code := impl.LayersOpen(p, source, d)
	checkNoList(t, "LayersOpen", open, code, want)
}

// TestRayErrors checks that validity is checked before everything else, and the knots before what a
// ray does there.
func TestRayErrors(t *testing.T) {
	valid, d := evenProfile(3, 10, slowest, fastest, 1600001), direction(4, 3, 5)
	numbers := append(notKnots(valid), 0, 1)
	for _, source := range numbers {
		for _, knot := range numbers {
			for _, p := range invalidProfiles() {
				checkNoRay(t, p, source, d, knot, impl.ErrInvalid)
			}
			for _, other := range invalidDirections {
				checkNoRay(t, valid, source, other, knot, impl.ErrInvalid)
			}
			checkNoRay(t, impl.Profile{}, source, impl.Direction{}, knot, impl.ErrInvalid)
		}
		for _, p := range invalidProfiles() {
			checkNoSource(t, p, source, d, impl.ErrInvalid)
		}
		for _, other := range invalidDirections {
			checkNoSource(t, valid, source, other, impl.ErrInvalid)
		}
	}
	for _, p := range someSpeeds() {
		for _, x := range notKnots(p)[:3] {
			for _, y := range []int64{0, 1, x} {
				checkNoRay(t, p, x, d, y, impl.ErrRange)
				checkNoRay(t, p, y, d, x, impl.ErrRange)
			}
			checkNoSource(t, p, x, d, impl.ErrRange)
		}
	}
	for _, x := range notKnots(valid) {
		checkNoRay(t, valid, 0, d, x, impl.ErrRange)
		checkNoRay(t, valid, x, d, 1, impl.ErrRange)
		// The turning speed from the last knot would not be valid.
		checkNoSource(t, valid, x, direction(527, 336, 625), impl.ErrRange)
	}
}

// TestRaysKeepProfiles checks that no function changes a profile, what lies behind it, or a list
// that was returned before.
func TestRaysKeepProfiles(t *testing.T) {
	for _, p := range append(someSpeeds(), invalidProfiles()...) {
		depths, speeds := append(slices.Clone(p.Depths), 8, 8, 8), append(slices.Clone(p.Speeds), 9, 9, 9)
		wasDepths, wasSpeeds := slices.Clone(depths), slices.Clone(speeds)
		q := profile(depths[:len(p.Depths)], speeds[:len(p.Speeds)])
		for knot := range int64(3) {
			impl.CanCross(q, 0, direction(3, 4, 5), knot)
			impl.SineAt(q, 0, direction(3, 4, 5), knot)
			impl.TurningSpeed(q, knot, direction(3, 4, 5))
			open, _ := impl.LayersOpen(q, knot, direction(3, 4, 5))
			was := slices.Clone(open)
			again, _ := impl.LayersOpen(q, knot, direction(3, 4, 5))
			fill(again, -1)
			if !slices.Equal(open, was) {
				t.Errorf("the results of LayersOpen share memory: %v", open)
			}
		}
		if !slices.Equal(depths, wasDepths) || !slices.Equal(speeds, wasSpeeds) {
			t.Errorf("%v was changed to %v", p, q)
		}
	}
}
