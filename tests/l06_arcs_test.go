package tests

import (
	"math"
	"math/big"
	"slices"
	"testing"

	"loop.example/g00915/impl"
)

// approach is a ray that comes to a layer, from above or from below.
type approach struct {
	p      impl.Profile
	source int64
	d      impl.Direction
	layer  int64
	above  bool
}

// approachesOf returns all ways for a ray from a source to come to a layer.
func approachesOf(p impl.Profile, source int64, d impl.Direction) []approach {
	var list []approach
	for layer := range knotsOf(p) - 1 {
		list = append(list, approach{p, source, d, layer, true}, approach{p, source, d, layer, false})
	}
	return list
}

func (a approach) near() int64 {
	if a.above {
		return a.layer
	}
	return a.layer + 1
}

func (a approach) far() int64 {
	return 2*a.layer + 1 - a.near()
}

func (a approach) thickness() int64 {
	return a.p.Depths[a.layer+1] - a.p.Depths[a.layer]
}

func (a approach) verdict() int64 {
	if !crosses(a.p, a.source, a.d, a.near()) {
		return impl.LayerShut
	}
	if crosses(a.p, a.source, a.d, a.far()) {
		return impl.LayerCrossed
	}
	return impl.LayerTurned
}

// squareOfSine returns the square of the scaled sine at a knot, which 64 bits hold.
func (a approach) squareOfSine(knot int64) *big.Int {
	scale, cosine := scaleOf(a.p, a.source, a.d), cosineOf(a.p, a.d, knot)
	return big.NewInt(scale*scale - cosine*cosine)
}

func (a approach) sineBounds(knot int64) impl.Interval {
	square := a.squareOfSine(knot)
	root := new(big.Int).Sqrt(square)
	if new(big.Int).Mul(root, root).Cmp(square) == 0 {
		return span(root.Int64(), root.Int64())
	}
	return span(root.Int64(), root.Int64()+1)
}

// speeding returns Cos times the difference of the speeds at the far and at the near knot.
func (a approach) speeding() int64 {
	return cosineOf(a.p, a.d, a.far()) - cosineOf(a.p, a.d, a.near())
}

// roundedAway returns the interval from low rounded down to high rounded up.
func roundedAway(low, high *big.Rat) impl.Interval {
	return span(floorOf(low.Num().Int64(), low.Denom().Int64()), -floorOf(-high.Num().Int64(), high.Denom().Int64()))
}

// wantedRange returns the bounds that chapter 6 gives for the range in a layer that is not shut.
func (a approach) wantedRange() impl.Interval {
	near, z := a.sineBounds(a.near()), a.thickness()
	if a.verdict() == impl.LayerTurned {
		return roundedAway(big.NewRat(2*z*near.Low, a.speeding()), big.NewRat(2*z*near.High, a.speeding()))
	}
	far := a.sineBounds(a.far())
	cosines := cosineOf(a.p, a.d, a.near()) + cosineOf(a.p, a.d, a.far())
	return roundedAway(big.NewRat(z*cosines, near.High+far.High), big.NewRat(z*cosines, near.Low+far.Low))
}

// turn returns the exact depth at which a ray that turns is horizontal.
func (a approach) turn() *big.Rat {
	near := big.NewRat(a.p.Depths[a.near()], 1)
	way := big.NewRat(a.thickness()*(scaleOf(a.p, a.source, a.d)-cosineOf(a.p, a.d, a.near())), a.speeding())
	if a.above {
		return way.Add(near, way)
	}
	return way.Sub(near, way)
}

// exactRange returns the range itself, with so many digits that it is on the right side of each
// integer that it differs from.
func (a approach) exactRange() *big.Float {
	root := func(knot int64) *big.Float {
		square := new(big.Float).SetPrec(300).SetInt(a.squareOfSine(knot))
		return square.Sqrt(square)
	}
	number := func(x int64) *big.Float { return new(big.Float).SetPrec(300).SetInt64(x) }
	sine := root(a.near())
	if a.verdict() == impl.LayerTurned {
		return sine.Quo(sine.Mul(sine, number(2*a.thickness())), number(a.speeding()))
	}
	cosines := cosineOf(a.p, a.d, a.near()) + cosineOf(a.p, a.d, a.far())
	return sine.Quo(number(a.thickness()*cosines), sine.Add(sine, root(a.far())))
}

// checkVerdict checks both functions that tell the verdict on a layer, and a range that is known.
func checkVerdict(t *testing.T, a approach, verdict int64, want impl.Interval) {
	t.Helper()
	if got, code := impl.LayerVerdict(a.p, a.source, a.d, a.layer, a.above); got != verdict || code != impl.ErrNone {
		t.Errorf("LayerVerdict(%v) = %d, %d, want %d", a, got, code, verdict)
	}
	got, told, code := impl.PassLayer(a.p, a.source, a.d, a.layer, a.above)
	if verdict == impl.LayerShut {
		if got != (impl.Interval{}) || told != 0 || code != impl.ErrState {
			t.Errorf("PassLayer(%v) = %v, %d, %d, want code %d", a, got, told, code, impl.ErrState)
		}
		return
	}
	if got != want || told != verdict || code != impl.ErrNone {
		t.Errorf("PassLayer(%v) = %v, %d, %d, want %v, %d", a, got, told, code, want, verdict)
	}
}

// checkCrossed checks all that is told of an arc that crosses its layer.
func checkCrossed(t *testing.T, a approach, want impl.Interval) {
	t.Helper()
	checkVerdict(t, a, impl.LayerCrossed, want)
	got, code := impl.CrossRange(a.p, a.source, a.d, a.layer)
	checkInterval(t, "CrossRange", got, code, want)
	got, code = impl.TurnRange(a.p, a.source, a.d, a.layer, a.above)
	checkNoInterval(t, "TurnRange of an arc that crosses", got, code, impl.ErrState)
	got, code = impl.TurnDepth(a.p, a.source, a.d, a.layer, a.above)
	checkNoInterval(t, "TurnDepth of an arc that crosses", got, code, impl.ErrState)
}

// checkTurned checks all that is told of an arc that turns in its layer.
func checkTurned(t *testing.T, a approach, want, depth impl.Interval) {
	t.Helper()
	checkVerdict(t, a, impl.LayerTurned, want)
	got, code := impl.CrossRange(a.p, a.source, a.d, a.layer)
	checkNoInterval(t, "CrossRange of an arc that turns", got, code, impl.ErrState)
	got, code = impl.TurnRange(a.p, a.source, a.d, a.layer, a.above)
	checkInterval(t, "TurnRange", got, code, want)
	got, code = impl.TurnDepth(a.p, a.source, a.d, a.layer, a.above)
	checkInterval(t, "TurnDepth", got, code, depth)
}

// checkShut checks all that is told of a layer to which no ray comes.
func checkShut(t *testing.T, a approach) {
	t.Helper()
	checkVerdict(t, a, impl.LayerShut, impl.Interval{})
	got, code := impl.CrossRange(a.p, a.source, a.d, a.layer)
	checkNoInterval(t, "CrossRange of a layer that is shut", got, code, impl.ErrState)
	got, code = impl.TurnRange(a.p, a.source, a.d, a.layer, a.above)
	checkNoInterval(t, "TurnRange of a layer that is shut", got, code, impl.ErrState)
	got, code = impl.TurnDepth(a.p, a.source, a.d, a.layer, a.above)
	checkNoInterval(t, "TurnDepth of a layer that is shut", got, code, impl.ErrState)
}

func TestConstantsOfArcs(t *testing.T) {
	if impl.LayerShut != 0 || impl.LayerCrossed != 1 || impl.LayerTurned != 2 {
		t.Error("verdicts of chapter 6")
	}
}

func TestCrossedLayerCases(t *testing.T) {
	steps := profile([]int64{0, 1000, 4000, 4001}, []int64{1500000, 1500000, 1600000, 1480000})
	for _, c := range []struct {
		p      impl.Profile
		source int64
		d      impl.Direction
		layer  int64
		want   impl.Interval
	}{
		// Along a line: 3 / 4, 4 / 3 and 24 / 7 of the thickness.
		{steps, 0, direction(3, 4, 5), 0, span(750, 750)},
		{steps, 1, direction(4, 3, 5), 0, span(1333, 1334)},
		{steps, 0, direction(24, -7, 25), 0, span(3428, 3429)},
		{evenProfile(2, 1, fastest), 0, direction(43, 924, 925), 0, span(0, 1)},
		{evenProfile(2, deepest, slowest), 1, direction(924, -43, 925), 0, span(21488372, 21488373)},
		{steps, 0, direction(3, 4, 5), 1, span(2371, 2372)},
		{steps, 2, direction(3, -4, 5), 2, span(0, 1)},
		// The sine 7375.9 at a knot that is only just crossed: each of its bounds moves a bound of the range.
		{evenProfile(2, deepest, 1360000, fastest-1), 0, direction(4, 3, 5), 0, span(2994585, 2994587)},
		{evenProfile(2, deepest, fastest-1, 1360000), 1, direction(4, -3, 5), 0, span(2994585, 2994587)},
		// Slower knots: the sine at the far one is 179625192.9.
		{evenProfile(2, 3000, 1500000, 1490000), 0, direction(899, 60, 901), 0, span(29908, 29909)},
		{evenProfile(2, 7, 1500000, 1499999), 0, direction(24, 7, 25), 0, span(23, 24)},
	} {
		for _, above := range []bool{true, false} {
			checkCrossed(t, approach{c.p, c.source, c.d, c.layer, above}, c.want)
		}
	}
}

func TestTurnedLayerCases(t *testing.T) {
	rise, fall := evenProfile(2, 3000, 1500000, 1600000), evenProfile(2, 3000, 1600000, 1500000)
	steep, deep := evenProfile(2, 3000, 1500000, 1600001), evenProfile(2, 3000, 1600001, 1500000)
	just, bowl := evenProfile(2, 10, 1360000, fastest), evenProfile(4, 10, fastest, 1360000, 1360000, fastest)
	for _, c := range []struct {
		a           approach
		want, depth impl.Interval
	}{
		{approach{rise, 0, direction(24, 7, 25), 0, true}, span(26250, 26250), span(1875, 1875)},
		{approach{rise, 0, direction(24, -7, 25), 0, true}, span(26250, 26250), span(1875, 1875)},
		{approach{fall, 1, direction(24, -7, 25), 0, false}, span(26250, 26250), span(1125, 1125)},
		// The depth is 100.1 below or above the near knot.
		{approach{steep, 0, direction(899, 60, 901), 0, true}, span(6006, 6007), span(100, 101)},
		{approach{deep, 1, direction(899, 60, 901), 0, false}, span(6006, 6007), span(2899, 2900)},
		// The sine at the far knot is 0, and the depth is that of this knot.
		{approach{just, 0, direction(4, 3, 5), 0, true}, span(60, 60), span(10, 10)},
		{approach{bowl, 1, direction(4, 3, 5), 0, false}, span(60, 60), span(0, 0)},
		{approach{bowl, 1, direction(4, -3, 5), 2, true}, span(60, 60), span(30, 30)},
	} {
		checkTurned(t, c.a, c.want, c.depth)
		// From the other knot, the layer is shut; so it is where the sine there is 0.
		c.a.above = !c.a.above
		checkShut(t, c.a)
	}
}

// TestLayersNearTheTurn has far knots at which the scaled sine is the least one that is not 0, or 0,
// or would be the root of a negative number.
func TestLayersNearTheTurn(t *testing.T) {
	d := direction(4, 3, 5)
	for _, c := range []struct {
		far           int64
		verdict, back int64
		want          impl.Interval
	}{
		{1624999, impl.LayerCrossed, impl.LayerCrossed, span(2994, 2995)},
		{1625000, impl.LayerTurned, impl.LayerShut, span(6000, 6000)},
		{1625001, impl.LayerTurned, impl.LayerShut, span(5999, 6000)},
	} {
		down, up := evenProfile(2, 1000, slowest, c.far), evenProfile(2, 1000, c.far, slowest)
		checkVerdict(t, approach{down, 0, d, 0, true}, c.verdict, c.want)
		checkVerdict(t, approach{down, 0, d, 0, false}, c.back, c.want)
		checkVerdict(t, approach{up, 1, d, 0, false}, c.verdict, c.want)
		checkVerdict(t, approach{up, 1, d, 0, true}, c.back, c.want)
	}
	// Two knots at which the sine is 0, and two that are beyond the turn.
	checkShut(t, approach{evenProfile(3, 10, slowest, 1625000, 1625000), 0, d, 1, true})
	checkShut(t, approach{evenProfile(3, 10, slowest, 1625000, 1625000), 0, d, 1, false})
	checkShut(t, approach{evenProfile(3, 10, slowest, fastest, 1625001), 0, d, 1, true})
	checkShut(t, approach{evenProfile(3, 10, slowest, fastest, 1625001), 0, d, 1, false})
}

// TestAllArcs compares each result with the bounds as the chapter defines them.
func TestAllArcs(t *testing.T) {
	seen := map[int64]int{}
	for _, p := range someSpeeds() {
		for _, d := range someDirections() {
			for source := range knotsOf(p) {
				for _, a := range approachesOf(p, source, d) {
					seen[a.verdict()]++
					switch a.verdict() {
					case impl.LayerShut:
						checkShut(t, a)
					case impl.LayerCrossed:
						checkCrossed(t, a, a.wantedRange())
					case impl.LayerTurned:
						checkTurned(t, a, a.wantedRange(), roundedAway(a.turn(), a.turn()))
					}
				}
			}
		}
	}
	if len(seen) != 3 {
		t.Errorf("verdicts %v", seen)
	}
}

// TestRangesEnclose checks that the range of the arc itself lies between the bounds.
func TestRangesEnclose(t *testing.T) {
	for _, p := range someSpeeds() {
		for _, d := range someDirections()[:40] {
			for source := range knotsOf(p) {
				for _, a := range approachesOf(p, source, d) {
					if a.verdict() == impl.LayerShut {
						continue
					}
					got, _, code := impl.PassLayer(p, source, d, a.layer, a.above)
					exact := a.exactRange()
					if exact.Cmp(big.NewFloat(float64(got.Low))) < 0 || exact.Cmp(big.NewFloat(float64(got.High))) > 0 || code != impl.ErrNone {
						t.Errorf("PassLayer(%v) = %v, %d does not contain %v", a, got, code, exact)
					}
				}
			}
		}
	}
}

// TestRaysTurnInsideOfTheirLayers checks also that the speed at the depth of turning is the turning
// speed.
func TestRaysTurnInsideOfTheirLayers(t *testing.T) {
	for _, p := range someSpeeds() {
		for _, d := range someDirections() {
			for source := range knotsOf(p) {
				for _, a := range approachesOf(p, source, d) {
					if a.verdict() == impl.LayerTurned {
						checkTurnInside(t, a)
					}
				}
			}
		}
	}
}

func checkTurnInside(t *testing.T, a approach) {
	t.Helper()
	got, code := impl.TurnDepth(a.p, a.source, a.d, a.layer, a.above)
	if got.Low < a.p.Depths[a.layer] || got.High > a.p.Depths[a.layer+1] || got.High-got.Low > 1 || code != impl.ErrNone {
		t.Errorf("TurnDepth(%v) = %v, %d is outside of the layer", a, got, code)
		return
	}
	slower, _ := impl.SpeedAt(a.p, got.Low)
	faster, _ := impl.SpeedAt(a.p, got.High)
	if !a.above {
		slower, faster = faster, slower
	}
	scale := scaleOf(a.p, a.source, a.d)
	if slower.Low*a.d.Cos > scale || faster.High*a.d.Cos < scale {
		t.Errorf("TurnDepth(%v) = %v has speeds from %d to %d", a, got, slower.Low, faster.High)
	}
}

// fromFlatToSteep returns the directions that go down, the flattest one first.
func fromFlatToSteep() []impl.Direction {
	var list []impl.Direction
	for _, d := range someDirections() {
		if d.Sin < 0 {
			d.Sin = -d.Sin
		}
		list = append(list, d)
	}
	slices.SortFunc(list, func(d, e impl.Direction) int {
		return big.NewRat(e.Cos, e.Hyp).Cmp(big.NewRat(d.Cos, d.Hyp))
	})
	return slices.Compact(list)
}

// TestSteeperRays compares the ranges of all directions in each layer, from either side.
func TestSteeperRays(t *testing.T) {
	list := fromFlatToSteep()
	for _, p := range someSpeeds() {
		for source := range knotsOf(p) {
			for layer := range knotsOf(p) - 1 {
				checkSteeper(t, approach{p, source, list[0], layer, true}, list)
				checkSteeper(t, approach{p, source, list[0], layer, false}, list)
			}
		}
	}
}

// checkSteeper checks that a steeper ray crosses a layer not farther, and that it turns in it not
// less far: no interval may lie wholly on the wrong side of one of a flatter ray. It also checks
// that a steeper ray comes no less far into the layer.
func checkSteeper(t *testing.T, a approach, list []impl.Direction) {
	t.Helper()
	crossed, turned := int64(math.MaxInt64), int64(0)
	order := []int64{impl.LayerShut, impl.LayerTurned, impl.LayerCrossed}
	reached := 0
	for _, a.d = range list {
		got, verdict, _ := impl.PassLayer(a.p, a.source, a.d, a.layer, a.above)
		if slices.Index(order, verdict) < reached {
			t.Errorf("PassLayer(%v) has the verdict %d, but for a flatter ray %d", a, verdict, order[reached])
		}
		reached = slices.Index(order, verdict)
		if verdict == impl.LayerCrossed {
			if got.Low > crossed {
				t.Errorf("PassLayer(%v) = %v, but a flatter ray goes at most %d", a, got, crossed)
			}
			crossed = min(crossed, got.High)
		}
		if verdict == impl.LayerTurned {
			if got.High < turned {
				t.Errorf("PassLayer(%v) = %v, but a flatter ray goes at least %d", a, got, turned)
			}
			turned = max(turned, got.Low)
		}
	}
}

// TestLongestArcs has the scaled cosine 1 below the scale, and a turn at the far knot from a near
// one with the next speed, in the thickest layers. No range is near MaxValue, so that there is no
// test of ErrLimit for ranges.
func TestLongestArcs(t *testing.T) {
	flat := direction(924, 43, 925)
	p := profile([]int64{0, 1, deepest}, []int64{1697389, 1699226, 1699226})
	for _, above := range []bool{true, false} {
		checkCrossed(t, approach{p, 0, flat, 1, above}, span(28018188620, 28018688615))
	}
	p = profile([]int64{0, 1, deepest}, []int64{1697388, 1699224, 1699225})
	checkTurned(t, approach{p, 0, flat, 1, true}, span(3686972503, 3686974668), span(deepest, deepest))
	p = profile([]int64{0, deepest - 1, deepest}, []int64{1699225, 1699224, 1697388})
	checkTurned(t, approach{p, 2, flat, 0, false}, span(3686972503, 3686974668), span(0, 0))
}

func TestRadiusCases(t *testing.T) {
	for _, c := range []struct {
		p      impl.Profile
		source int64
		d      impl.Direction
		layer  int64
		want   impl.Interval
	}{
		{profile([]int64{0, 1000, 4000}, []int64{1500000, 1500000, 1600000}), 0, direction(3, 4, 5), 1, span(75000, 75000)},
		{profile([]int64{0, 3000}, []int64{1600000, 1500000}), 1, direction(3, -4, 5), 0, span(75000, 75000)},
		{profile([]int64{0, 3000}, []int64{1500001, 1500000}), 0, direction(4, -3, 5), 0, span(5625003750, 5625003750)},
		{profile([]int64{0, 7}, []int64{1500000, 1490011}), 0, direction(4, -3, 5), 0, span(1313, 1314)},
		{profile([]int64{0, 7}, []int64{1490011, 1500000}), 1, direction(4, -3, 5), 0, span(1313, 1314)},
		// The verdict does not matter: this layer is shut from both sides.
		{evenProfile(3, 10, slowest, fastest, 1650000), 0, direction(24, 7, 25), 1, span(270, 271)},
		// The greatest value, and a bound that is rounded up to it.
		{evenProfile(2, deepest, 1600000, 1600002), 0, direction(4, 3, 5), 0, span(top, top)},
		{evenProfile(2, deepest, 1599998, 1600000), 1, direction(4, -3, 5), 0, span(top, top)},
		{evenProfile(2, 800000, 1500000, 1499998), 0, direction(3, 4, 5), 0, span(top, top)},
		{evenProfile(2, 859684, 1405922, 1405948), 0, direction(43, 924, 925), 0, span(top-1, top)},
		{evenProfile(2, 762377, 1524393, 1524418), 0, direction(43, 924, 925), 0, span(top-1, top-1)},
	} {
		got, code := impl.ArcRadius(c.p, c.source, c.d, c.layer)
		checkInterval(t, "ArcRadius", got, code, c.want)
	}
}

func TestRadiusErrors(t *testing.T) {
	for _, c := range []struct {
		p    impl.Profile
		d    impl.Direction
		want int64
	}{
		{evenProfile(2, 1, 1500000), direction(4, 3, 5), impl.ErrState},
		{evenProfile(2, deepest, fastest), direction(43, 924, 925), impl.ErrState},
		// Only the upper bound is beyond the values: the radius is between top and top + 1.
		{evenProfile(2, 879943, 1340293, 1340306), direction(44, 483, 485), impl.ErrLimit},
		{evenProfile(2, 752033, 1638801, 1638797), direction(57, -176, 185), impl.ErrLimit},
		{evenProfile(2, deepest, 1600001, 1599999), direction(4, 3, 5), impl.ErrLimit},
		{evenProfile(2, deepest, 1600000, 1600001), direction(4, 3, 5), impl.ErrLimit},
		{evenProfile(2, deepest, fastest, fastest-1), direction(43, 924, 925), impl.ErrLimit},
	} {
		got, code := impl.ArcRadius(c.p, 0, c.d, 0)
		checkNoInterval(t, "ArcRadius", got, code, c.want)
	}
}

func TestRadiiAreExact(t *testing.T) {
	for _, p := range someSpeeds() {
		for _, d := range someDirections() {
			for source := range knotsOf(p) {
				for layer := range knotsOf(p) - 1 {
					a := approach{p, source, d, layer, p.Speeds[layer] < p.Speeds[layer+1]}
					got, code := impl.ArcRadius(p, source, d, layer)
					if a.speeding() == 0 {
						checkNoInterval(t, "ArcRadius", got, code, impl.ErrState)
						continue
					}
					exact := big.NewRat(scaleOf(p, source, d)*a.thickness(), a.speeding())
					if exact.Cmp(big.NewRat(top, 1)) > 0 {
						checkNoInterval(t, "ArcRadius", got, code, impl.ErrLimit)
						continue
					}
					checkInterval(t, "ArcRadius", got, code, roundedAway(exact, exact))
				}
			}
		}
	}
}

// checkNoLayer checks all functions of chapter 6.
func checkNoLayer(t *testing.T, p impl.Profile, source int64, d impl.Direction, layer, want int64) {
	t.Helper()
	got, code := impl.CrossRange(p, source, d, layer)
	checkNoInterval(t, "CrossRange", got, code, want)
	got, code = impl.ArcRadius(p, source, d, layer)
	checkNoInterval(t, "ArcRadius", got, code, want)
	for _, above := range []bool{true, false} {
		verdict, code := impl.LayerVerdict(p, source, d, layer, above)
		checkNoNumber(t, "LayerVerdict", verdict, code, want)
		got, code = impl.TurnRange(p, source, d, layer, above)
		checkNoInterval(t, "TurnRange", got, code, want)
		got, code = impl.TurnDepth(p, source, d, layer, above)
		checkNoInterval(t, "TurnDepth", got, code, want)
		got, verdict, code = impl.PassLayer(p, source, d, layer, above)
		checkNoInterval(t, "PassLayer", got, code, want)
		checkNoNumber(t, "the verdict of PassLayer", verdict, code, want)
	}
}

// TestLayerErrors checks that validity is checked before everything else, and the source and the
// layer before what a ray does there.
func TestLayerErrors(t *testing.T) {
	valid, d := evenProfile(3, 10, slowest, fastest, 1600001), direction(4, 3, 5)
	numbers := append(notKnots(valid), 0, 1, 2)
	for _, source := range numbers {
		for _, layer := range numbers {
			for _, p := range invalidProfiles() {
				checkNoLayer(t, p, source, d, layer, impl.ErrInvalid)
			}
			for _, other := range invalidDirections {
				checkNoLayer(t, valid, source, other, layer, impl.ErrInvalid)
			}
			checkNoLayer(t, impl.Profile{}, source, impl.Direction{}, layer, impl.ErrInvalid)
		}
	}
	for _, p := range someSpeeds() {
		// The last knot begins no layer.
		for _, layer := range append(notKnots(p), knotsOf(p)-1) {
			for source := range knotsOf(p) {
				checkNoLayer(t, p, source, d, layer, impl.ErrRange)
			}
			checkNoLayer(t, p, layer, d, knotsOf(p)-1, impl.ErrRange)
		}
		for _, source := range notKnots(p) {
			for layer := range knotsOf(p) {
				checkNoLayer(t, p, source, d, layer, impl.ErrRange)
			}
		}
	}
}

// TestArcsKeepProfiles checks that no function changes a profile or what lies behind it.
func TestArcsKeepProfiles(t *testing.T) {
	for _, p := range append(someSpeeds(), invalidProfiles()...) {
		depths, speeds := append(slices.Clone(p.Depths), 8, 8, 8), append(slices.Clone(p.Speeds), 9, 9, 9)
		wasDepths, wasSpeeds := slices.Clone(depths), slices.Clone(speeds)
		q := profile(depths[:len(p.Depths)], speeds[:len(p.Speeds)])
		for _, a := range approachesOf(evenProfile(3, 1, 1500000), 0, direction(4, 3, 5)) {
			impl.LayerVerdict(q, 0, a.d, a.layer, a.above)
			impl.CrossRange(q, 0, a.d, a.layer)
			impl.TurnRange(q, 0, a.d, a.layer, a.above)
			impl.TurnDepth(q, 0, a.d, a.layer, a.above)
			impl.ArcRadius(q, 0, a.d, a.layer)
			impl.PassLayer(q, 0, a.d, a.layer, a.above)
		}
		if !slices.Equal(depths, wasDepths) || !slices.Equal(speeds, wasSpeeds) {
			t.Errorf("%v was changed to %v", p, q)
		}
	}
}
