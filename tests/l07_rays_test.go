package tests

import (
	"math"
	"math/big"
	"slices"
	"strings"
	"testing"

	"loop.example/g00915/impl"
)

// launch is a ray that begins at a source.
type launch struct {
	p      impl.Profile
	source int64
	d      impl.Direction
}

// launchesOf returns the rays from all knots of the profiles above into these directions.
func launchesOf(directions []impl.Direction) []launch {
	var list []launch
	for _, p := range someSpeeds() {
		for source := range knotsOf(p) {
			for _, d := range directions {
				list = append(list, launch{p, source, d})
			}
		}
	}
	return list
}

// someRays returns rays into directions of all kinds.
func someRays() []launch {
	var some []impl.Direction
	for i, d := range someDirections() {
		if i < 12 || i%10 == 0 {
			some = append(some, d)
		}
	}
	return launchesOf(some)
}

// state is short for the state at a knot, going down or up.
func state(knot int64, down bool, ranges impl.Interval) impl.RayState {
	return impl.RayState{Knot: knot, Down: down, Range: ranges}
}

func (l launch) first() impl.RayState {
	return state(l.source, l.d.Sin > 0, span(0, 0))
}

// approach returns how a ray in the state x comes to the next layer, if it is not reflected.
func (l launch) approach(x impl.RayState) approach {
	if x.Down {
		return approach{l.p, l.source, l.d, x.Knot, true}
	}
	return approach{l.p, l.source, l.d, x.Knot - 1, false}
}

// next returns the event behind x and the state behind it, as the chapter defines them.
func (l launch) next(x impl.RayState) (int64, impl.RayState) {
	if x.Down && x.Knot == knotsOf(l.p)-1 {
		return impl.RayBottom, state(x.Knot, false, x.Range)
	}
	if !x.Down && x.Knot == 0 {
		return impl.RaySurface, state(0, true, x.Range)
	}
	a := l.approach(x)
	way := a.wantedRange()
	ranges := span(x.Range.Low+way.Low, x.Range.High+way.High)
	if a.verdict() == impl.LayerTurned {
		return impl.RayTurn, state(x.Knot, !x.Down, ranges)
	}
	return impl.RayCross, state(a.far(), x.Down, ranges)
}

// reached returns the depths that the chapter counts for an event behind x.
func (l launch) reached(x impl.RayState) impl.Interval {
	event, behind := l.next(x)
	if event == impl.RayTurn {
		turn := l.approach(x).turn()
		return roundedAway(turn, turn)
	}
	return span(l.p.Depths[behind.Knot], l.p.Depths[behind.Knot])
}

func checkState(t *testing.T, what string, got impl.RayState, code int64, want impl.RayState) {
	t.Helper()
	if got != want || code != impl.ErrNone {
		t.Errorf("%s = %v, %d, want %v", what, got, code, want)
	}
}

func checkNoState(t *testing.T, what string, got impl.RayState, code, want int64) {
	t.Helper()
	if got != (impl.RayState{}) || code != want {
		t.Errorf("%s = %v, %d, want no state and code %d", what, got, code, want)
	}
}

func checkStep(t *testing.T, l launch, x impl.RayState, event int64, want impl.RayState) {
	t.Helper()
	got, kind, code := impl.StepRay(l.p, l.source, l.d, x)
	checkState(t, "StepRay", got, code, want)
	checkNumber(t, "the event of StepRay", kind, code, event)
}

func checkNoStep(t *testing.T, l launch, x impl.RayState, want int64) {
	t.Helper()
	got, kind, code := impl.StepRay(l.p, l.source, l.d, x)
	checkNoState(t, "StepRay", got, code, want)
	checkNoNumber(t, "the event of StepRay", kind, code, want)
}

// checkTrace checks a trace with these letters, all states of which are known to be behind them.
func checkTrace(t *testing.T, l launch, letters string, want impl.RayState) {
	t.Helper()
	n := int64(len(letters))
	events, got, code := impl.TraceRay(l.p, l.source, l.d, n)
	if text := impl.HistoryText(events); text != letters || int64(len(events)) != n {
		t.Errorf("TraceRay(%v, %d) = %v, %q, want %q", l, n, events, text, letters)
	}
	checkState(t, "TraceRay", got, code, want)
	ranges, code := impl.RangesOf(l.p, l.source, l.d, n)
	if int64(len(ranges)) != n || code != impl.ErrNone {
		t.Errorf("RangesOf(%v, %d) = %v, %d", l, n, ranges, code)
	} else if n > 0 && ranges[n-1] != want.Range {
		t.Errorf("RangesOf(%v, %d) ends with %v, want %v", l, n, ranges[n-1], want.Range)
	}
}

func checkDeepest(t *testing.T, l launch, n int64, want impl.Interval) {
	t.Helper()
	got, code := impl.DeepestOf(l.p, l.source, l.d, n)
	checkInterval(t, "DeepestOf", got, code, want)
}

func TestConstantsOfRays(t *testing.T) {
	if impl.RayCross != 1 || impl.RayTurn != 2 || impl.RaySurface != 3 || impl.RayBottom != 4 || impl.MaxEvents != 100 {
		t.Error("constants of chapter 7")
	}
}

func TestFirstStates(t *testing.T) {
	p := evenProfile(3, 10, fastest, slowest, 1500000)
	for source := range knotsOf(p) {
		got, code := impl.FirstState(p, source, direction(4, 3, 5))
		checkState(t, "FirstState", got, code, state(source, true, span(0, 0)))
		got, code = impl.FirstState(p, source, direction(4, -3, 5))
		checkState(t, "FirstState", got, code, state(source, false, span(0, 0)))
	}
	for _, l := range launchesOf(someDirections()) {
		got, code := impl.FirstState(l.p, l.source, l.d)
		checkState(t, "FirstState", got, code, l.first())
		if !impl.IsRayState(l.p, l.source, l.d, got) {
			t.Errorf("the first state of %v is not valid", l)
		}
	}
}

func TestTraceCases(t *testing.T) {
	steps, line := profile([]int64{0, 1000, 4000}, []int64{1500000, 1500000, 1600000}), evenProfile(2, 1000, 1500000)
	rise, fall := evenProfile(2, 3000, 1500000, 1600000), evenProfile(2, 3000, 1600000, 1500000)
	bowl := evenProfile(4, 10, fastest, 1360000, 1360000, fastest)
	for _, c := range []struct {
		l       launch
		letters string
		want    impl.RayState
	}{
		{launch{steps, 0, direction(3, 4, 5)}, "", state(0, true, span(0, 0))},
		{launch{steps, 1, direction(3, -4, 5)}, "", state(1, false, span(0, 0))},
		{launch{steps, 0, direction(3, 4, 5)}, "c", state(1, true, span(750, 750))},
		{launch{steps, 0, direction(3, 4, 5)}, "cc", state(2, true, span(3121, 3122))},
		{launch{steps, 0, direction(3, 4, 5)}, "ccb", state(2, false, span(3121, 3122))},
		{launch{steps, 0, direction(3, 4, 5)}, "ccbccs", state(0, true, span(6242, 6244))},
		{launch{steps, 0, direction(24, 7, 25)}, "ct", state(1, false, span(29678, 29679))},
		{launch{steps, 0, direction(24, 7, 25)}, "ctcsc", state(1, true, span(36534, 36537))},
		{launch{steps, 1, direction(24, 7, 25)}, "tcsct", state(1, false, span(59356, 59358))},
		// The first state at the first and at the last knot, going up and down.
		{launch{rise, 0, direction(24, -7, 25)}, "sts", state(0, true, span(26250, 26250))},
		{launch{rise, 0, direction(24, 7, 25)}, "tst", state(0, false, span(52500, 52500))},
		{launch{fall, 1, direction(24, 7, 25)}, "btb", state(1, false, span(26250, 26250))},
		{launch{fall, 1, direction(24, -7, 25)}, "tbt", state(1, true, span(52500, 52500))},
		// A ray that turns where the sine at the far knot would be 0, from above and from below.
		{launch{bowl, 1, direction(4, 3, 5)}, "ctctc", state(2, true, span(159, 162))},
		{launch{bowl, 2, direction(4, -3, 5)}, "ctctc", state(1, false, span(159, 162))},
		{launch{bowl, 1, direction(4, -3, 5)}, "tctct", state(1, true, span(206, 208))},
		// Sums of 50 ranges.
		{launch{line, 0, direction(3, 4, 5)}, strings.Repeat("cbcs", 25), state(0, true, span(37500, 37500))},
		{launch{line, 0, direction(4, 3, 5)}, strings.Repeat("cbcs", 25), state(0, true, span(66650, 66700))},
		{launch{line, 1, direction(4, -3, 5)}, strings.Repeat("cscb", 24) + "csc", state(1, true, span(66650, 66700))},
	} {
		checkTrace(t, c.l, c.letters, c.want)
	}
}

// TestLongestRays has a ray that goes about as far with 100 events as any can: its scaled cosine is 1
// below the scale at both ends of a layer that is almost as thick as any. It stays below MaxValue,
// so that there is no test of ErrLimit but for StepRay.
func TestLongestRays(t *testing.T) {
	p := profile([]int64{0, 1, deepest}, []int64{1685636, 1699727, 1699727})
	l := launch{p, 0, direction(957, 124, 965)}
	events, x, code := impl.TraceRay(l.p, l.source, l.d, impl.MaxEvents)
	if text := impl.HistoryText(events); text != strings.Repeat("ccbccs", 16)+"ccbc" {
		t.Errorf("TraceRay(%v) = %q", l, text)
	}
	if x.Range.Low < 960000000000 || x.Range.High > 980000000000 || code != impl.ErrNone {
		t.Errorf("TraceRay(%v) = %v, %d", l, x, code)
	}
	checkDeepest(t, l, impl.MaxEvents, span(deepest, deepest))
}

// TestTraces compares each event, state and range, and the greatest depth, with those that the
// chapter defines.
func TestTraces(t *testing.T) {
	seen := map[int64]int{}
	for _, l := range someRays() {
		events, end, code := impl.TraceRay(l.p, l.source, l.d, impl.MaxEvents)
		if code != impl.ErrNone || len(events) != impl.MaxEvents {
			t.Fatalf("TraceRay(%v) = %v, %v, %d", l, events, end, code)
		}
		ranges, code := impl.RangesOf(l.p, l.source, l.d, impl.MaxEvents)
		if code != impl.ErrNone || len(ranges) != impl.MaxEvents {
			t.Fatalf("RangesOf(%v) = %v, %d", l, ranges, code)
		}
		x, deepest := l.first(), span(l.p.Depths[l.source], l.p.Depths[l.source])
		for i := range events {
			reached := l.reached(x)
			deepest = span(max(deepest.Low, reached.Low), max(deepest.High, reached.High))
			event, behind := l.next(x)
			checkStep(t, l, x, event, behind)
			if events[i] != event || ranges[i] != behind.Range {
				t.Fatalf("event %d of %v is %d with %v, want %d with %v", i, l, events[i], ranges[i], event, behind.Range)
			}
			seen[event]++
			x = behind
		}
		checkState(t, "TraceRay", end, code, x)
		checkDeepest(t, l, impl.MaxEvents, deepest)
	}
	if len(seen) != 4 {
		t.Errorf("events %v", seen)
	}
}

// TestRaysStayWhereTheyCanCross checks that the states of all rays are valid, that their ranges do
// not fall, and that fewer events are the first ones of more.
func TestRaysStayWhereTheyCanCross(t *testing.T) {
	for _, l := range launchesOf(someDirections()) {
		all, _, _ := impl.TraceRay(l.p, l.source, l.d, 12)
		ranges, _ := impl.RangesOf(l.p, l.source, l.d, 12)
		last, deepest := span(0, 0), span(0, 0)
		for n := range int64(13) {
			events, x, code := impl.TraceRay(l.p, l.source, l.d, n)
			if !slices.Equal(events, all[:n]) || code != impl.ErrNone {
				t.Fatalf("TraceRay(%v, %d) = %v, %d, want a beginning of %v", l, n, events, code, all)
			}
			if n > 0 && x.Range != ranges[n-1] {
				t.Fatalf("TraceRay(%v, %d) = %v, want the range %v", l, n, x, ranges[n-1])
			}
			if !impl.IsRayState(l.p, l.source, l.d, x) || !crosses(l.p, l.source, l.d, x.Knot) {
				t.Fatalf("TraceRay(%v, %d) comes to %v", l, n, x)
			}
			if x.Range.Low < last.Low || x.Range.High < last.High {
				t.Fatalf("TraceRay(%v, %d) falls from %v to %v", l, n, last, x.Range)
			}
			last = x.Range
			deeper, code := impl.DeepestOf(l.p, l.source, l.d, n)
			if deeper.Low < deepest.Low || deeper.High < deepest.High || deeper.High > bottomOf(l.p) || code != impl.ErrNone {
				t.Fatalf("DeepestOf(%v, %d) = %v, %d behind %v", l, n, deeper, code, deepest)
			}
			deepest = deeper
		}
	}
}

// TestTracesEnclose checks that the range of the ray itself lies between the bounds.
func TestTracesEnclose(t *testing.T) {
	for _, l := range launchesOf(someDirections()[:12]) {
		x, sum := l.first(), new(big.Float).SetPrec(300)
		for range 12 {
			behind, event, code := impl.StepRay(l.p, l.source, l.d, x)
			if code != impl.ErrNone {
				t.Fatalf("StepRay(%v, %v) has code %d", l, x, code)
			}
			if event == impl.RayCross || event == impl.RayTurn {
				sum.Add(sum, l.approach(x).exactRange())
			}
			x = behind
			if sum.Cmp(big.NewFloat(float64(x.Range.Low))) < 0 || sum.Cmp(big.NewFloat(float64(x.Range.High))) > 0 {
				t.Errorf("%v of %v does not contain %v", x, l, sum)
			}
		}
	}
}

func TestDeepestCases(t *testing.T) {
	steps := profile([]int64{0, 1000, 4000}, []int64{1500000, 1500000, 1600000})
	steep, deep := evenProfile(2, 3000, 1500000, 1600001), evenProfile(2, 3000, 1600001, 1500000)
	just, bowl := evenProfile(2, 10, 1360000, fastest), evenProfile(4, 10, fastest, 1360000, 1360000, fastest)
	down, up := direction(24, 7, 25), direction(24, -7, 25)
	for _, c := range []struct {
		l    launch
		n    int64
		want impl.Interval
	}{
		// At the source, at a knot, and at a turn from above.
		{launch{steps, 0, down}, 0, span(0, 0)},
		{launch{steps, 0, up}, 1, span(0, 0)},
		{launch{steps, 0, down}, 1, span(1000, 1000)},
		{launch{steps, 0, down}, 2, span(2875, 2875)},
		{launch{steps, 0, down}, 3, span(2875, 2875)},
		{launch{steps, 0, down}, 100, span(2875, 2875)},
		{launch{steps, 1, up}, 3, span(1000, 1000)},
		{launch{steps, 1, up}, 4, span(2875, 2875)},
		{launch{steps, 1, direction(3, -4, 5)}, 0, span(1000, 1000)},
		{launch{steps, 1, direction(3, -4, 5)}, 3, span(1000, 1000)},
		{launch{steps, 1, direction(3, -4, 5)}, 4, span(4000, 4000)},
		{launch{steps, 2, up}, 0, span(4000, 4000)},
		{launch{steps, 2, up}, 2, span(4000, 4000)},
		// A turn at a depth that is no integer.
		{launch{steep, 0, direction(899, 60, 901)}, 0, span(0, 0)},
		{launch{steep, 0, direction(899, 60, 901)}, 1, span(100, 101)},
		{launch{steep, 0, direction(899, -60, 901)}, 2, span(100, 101)},
		// A turn from below is not as deep as its knot.
		{launch{deep, 1, direction(899, -60, 901)}, 1, span(3000, 3000)},
		{launch{deep, 1, direction(899, 60, 901)}, 2, span(3000, 3000)},
		{launch{bowl, 1, direction(4, -3, 5)}, 1, span(10, 10)},
		{launch{bowl, 1, direction(4, -3, 5)}, 2, span(20, 20)},
		// A turn at the depth of a knot that is not reached.
		{launch{bowl, 1, direction(4, -3, 5)}, 3, span(30, 30)},
		{launch{just, 0, direction(4, 3, 5)}, 1, span(10, 10)},
	} {
		checkDeepest(t, c.l, c.n, c.want)
	}
}

func TestStepCases(t *testing.T) {
	rise := evenProfile(2, 3000, 1500000, 1600000)
	ridge := evenProfile(3, 10, 1360000, fastest, 1360000)
	for _, c := range []struct {
		l     launch
		x     impl.RayState
		event int64
		want  impl.RayState
	}{
		{launch{rise, 0, direction(24, 7, 25)}, state(0, true, span(5, 6)), impl.RayTurn, state(0, false, span(26255, 26256))},
		{launch{rise, 0, direction(24, 7, 25)}, state(0, false, span(5, 6)), impl.RaySurface, state(0, true, span(5, 6))},
		{launch{rise, 1, direction(24, 7, 25)}, state(1, true, span(0, 7)), impl.RayBottom, state(1, false, span(0, 7))},
		// A source beyond a knot that cannot be crossed: the states need not be on the way of the ray.
		{launch{ridge, 0, direction(4, 3, 5)}, state(2, false, span(1, 1)), impl.RayTurn, state(2, true, span(61, 61))},
		{launch{ridge, 2, direction(4, 3, 5)}, state(0, true, span(1, 1)), impl.RayTurn, state(0, false, span(61, 61))},
		{launch{ridge, 0, direction(4, 3, 5)}, state(2, true, span(1, 1)), impl.RayBottom, state(2, false, span(1, 1))},
	} {
		checkStep(t, c.l, c.x, c.event, c.want)
	}
}

// TestGreatestRanges has sums of ranges at MaxValue and next to it.
func TestGreatestRanges(t *testing.T) {
	line, rise := evenProfile(2, 1000, 1500000), evenProfile(2, 3000, 1500000, 1600000)
	crossing, wide, turning := launch{line, 0, direction(3, 4, 5)}, launch{line, 0, direction(4, 3, 5)}, launch{rise, 0, direction(24, 7, 25)}
	checkStep(t, crossing, state(0, true, span(0, top-750)), impl.RayCross, state(1, true, span(750, top)))
	checkStep(t, crossing, state(1, false, span(top-750, top-750)), impl.RayCross, state(0, false, span(top, top)))
	checkNoStep(t, crossing, state(0, true, span(0, top-749)), impl.ErrLimit)
	checkNoStep(t, crossing, state(1, false, span(top-749, top-749)), impl.ErrLimit)
	checkNoStep(t, crossing, state(0, true, span(0, top)), impl.ErrLimit)
	checkNoStep(t, crossing, state(0, true, span(top, top)), impl.ErrLimit)
	// Both bounds have a sum of their own.
	checkStep(t, wide, state(0, true, span(0, top-1334)), impl.RayCross, state(1, true, span(1333, top)))
	checkStep(t, wide, state(0, true, span(top-1334, top-1334)), impl.RayCross, state(1, true, span(top-1, top)))
	checkNoStep(t, wide, state(0, true, span(0, top-1333)), impl.ErrLimit)
	checkNoStep(t, wide, state(0, true, span(top-1333, top-1333)), impl.ErrLimit)
	checkStep(t, turning, state(0, true, span(1, top-26250)), impl.RayTurn, state(0, false, span(26251, top)))
	checkNoStep(t, turning, state(0, true, span(1, top-26249)), impl.ErrLimit)
	// A reflection adds nothing.
	checkStep(t, crossing, state(0, false, span(0, top)), impl.RaySurface, state(0, true, span(0, top)))
	checkStep(t, crossing, state(1, true, span(top, top)), impl.RayBottom, state(1, false, span(top, top)))
}

func TestValidStates(t *testing.T) {
	d := direction(4, 3, 5)
	p := evenProfile(4, 10, slowest, 1624999, 1625000, 1625001)
	ranges := []impl.Interval{span(0, 0), span(0, 1), span(7, 7), span(0, top), span(top, top)}
	for knot := range knotsOf(p) {
		for _, a := range ranges {
			for _, down := range []bool{true, false} {
				if got := impl.IsRayState(p, 0, d, state(knot, down, a)); got != (knot < 2) {
					t.Errorf("IsRayState of knot %d with %v = %v", knot, a, got)
				}
				// From its own source a ray crosses all knots that are not faster.
				if got := impl.IsRayState(p, 3, d, state(knot, down, a)); !got {
					t.Errorf("IsRayState of knot %d with %v = %v", knot, a, got)
				}
			}
		}
	}
	for _, l := range launchesOf(someDirections()) {
		for knot := range knotsOf(l.p) {
			if got := impl.IsRayState(l.p, l.source, l.d, state(knot, true, span(3, 4))); got != crosses(l.p, l.source, l.d, knot) {
				t.Errorf("IsRayState(%v) of knot %d = %v", l, knot, got)
			}
		}
	}
}

// invalidRanges are not intervals, or begin below 0.
var invalidRanges = []impl.Interval{
	{Low: -1}, {Low: -1, High: 5}, {Low: -1, High: -1}, {Low: -top, High: top}, {Low: -top, High: -top}, {Low: -top - 1, High: top},
	{Low: 1}, {Low: 5, High: 4}, {Low: top, High: 0}, {High: -1}, {Low: 5, High: -5},
	{High: top + 1}, {Low: top, High: top + 1}, {Low: top + 1, High: top + 1},
	{Low: math.MinInt64}, {High: math.MaxInt64}, {Low: math.MinInt64, High: math.MaxInt64}, {Low: math.MaxInt64, High: math.MaxInt64}, {Low: math.MinInt64, High: math.MinInt64}, {Low: math.MaxInt64, High: math.MinInt64},
}

// checkInvalidState checks both functions that take a state.
func checkInvalidState(t *testing.T, l launch, x impl.RayState, want int64) {
	t.Helper()
	if impl.IsRayState(l.p, l.source, l.d, x) {
		t.Errorf("IsRayState(%v, %v) = true", l, x)
	}
	checkNoStep(t, l, x, want)
}

// TestInvalidStates checks that states are rejected before a range is computed.
func TestInvalidStates(t *testing.T) {
	d := direction(4, 3, 5)
	just := evenProfile(3, 1000, slowest, 1624999, 1625000)
	for _, down := range []bool{true, false} {
		checkInvalidState(t, launch{just, 0, d}, state(2, down, span(0, 0)), impl.ErrRange)
		checkInvalidState(t, launch{just, 0, d}, state(2, down, span(top, top)), impl.ErrRange)
		for _, p := range someSpeeds() {
			for source := range knotsOf(p) {
				l := launch{p, source, d}
				for _, a := range invalidRanges {
					checkInvalidState(t, l, state(source, down, a), impl.ErrRange)
				}
				for _, knot := range notKnots(p) {
					checkInvalidState(t, l, state(knot, down, span(0, 0)), impl.ErrRange)
				}
				for knot := range knotsOf(p) {
					if !crosses(p, source, d, knot) {
						checkInvalidState(t, l, state(knot, down, span(top, top)), impl.ErrRange)
					}
				}
			}
		}
	}
}

// checkNoTrace checks the functions that follow a ray from its source.
func checkNoTrace(t *testing.T, l launch, n, want int64) {
	t.Helper()
	events, x, code := impl.TraceRay(l.p, l.source, l.d, n)
	checkNoList(t, "TraceRay", events, code, want)
	checkNoState(t, "TraceRay", x, code, want)
	ranges, code := impl.RangesOf(l.p, l.source, l.d, n)
	if len(ranges) != 0 || code != want {
		t.Errorf("RangesOf(%v, %d) = %v, %d, want no ranges and code %d", l, n, ranges, code, want)
	}
	deepest, code := impl.DeepestOf(l.p, l.source, l.d, n)
	checkNoInterval(t, "DeepestOf", deepest, code, want)
}

func TestNumbersOfEvents(t *testing.T) {
	l := launch{evenProfile(2, 1000, 1500000), 0, direction(3, 4, 5)}
	for _, n := range []int64{-1, -2, -impl.MaxEvents, impl.MaxEvents + 1, impl.MaxEvents + 2, 1 << 32, 1<<32 + 1, math.MinInt64, math.MaxInt64} {
		checkNoTrace(t, l, n, impl.ErrRange)
	}
	for n := range int64(impl.MaxEvents + 1) {
		events, _, code := impl.TraceRay(l.p, l.source, l.d, n)
		checkList(t, "TraceRay", events, code, slices.Repeat([]int64{impl.RayCross, impl.RayBottom, impl.RayCross, impl.RaySurface}, 25)[:n])
		checkDeepest(t, l, n, span(min(n, 1)*1000, min(n, 1)*1000))
	}
}

// checkNoLaunch checks all functions that take a ray, with states and numbers of events that are
// valid and that are not.
func checkNoLaunch(t *testing.T, l launch, want int64) {
	t.Helper()
	got, code := impl.FirstState(l.p, l.source, l.d)
	checkNoState(t, "FirstState", got, code, want)
	for _, n := range []int64{0, 1, impl.MaxEvents, impl.MaxEvents + 1, -1, math.MinInt64} {
		checkNoTrace(t, l, n, want)
	}
	for _, knot := range []int64{0, 1, -1, impl.MaxKnots, math.MinInt64, math.MaxInt64} {
		checkInvalidState(t, l, state(knot, true, span(0, 0)), want)
		checkInvalidState(t, l, state(knot, false, span(top, top)), want)
		checkInvalidState(t, l, state(knot, true, span(-1, 0)), want)
	}
}

// TestLaunchErrors checks that validity is checked before everything else, and the source before
// what begins there.
func TestLaunchErrors(t *testing.T) {
	valid, d := evenProfile(3, 10, slowest, fastest, 1600001), direction(4, 3, 5)
	for _, source := range append(notKnots(valid), 0, 1, 2) {
		for _, p := range invalidProfiles() {
			checkNoLaunch(t, launch{p, source, d}, impl.ErrInvalid)
		}
		for _, other := range invalidDirections {
			checkNoLaunch(t, launch{valid, source, other}, impl.ErrInvalid)
		}
		checkNoLaunch(t, launch{impl.Profile{}, source, impl.Direction{}}, impl.ErrInvalid)
	}
	for _, p := range someSpeeds() {
		for _, source := range notKnots(p) {
			checkNoLaunch(t, launch{p, source, d}, impl.ErrRange)
		}
	}
}

func checkNoHistory(t *testing.T, s string) {
	t.Helper()
	if events, ok := impl.ReadHistory(s); len(events) != 0 || ok {
		t.Errorf("ReadHistory(%q) = %v, %v", s, events, ok)
	}
}

// checkHistory checks that events have these letters, and letters these events.
func checkHistory(t *testing.T, events []int64, letters string) {
	t.Helper()
	if got := impl.HistoryText(events); got != letters {
		t.Errorf("HistoryText(%v) = %q, want %q", events, got, letters)
	}
	if got, ok := impl.ReadHistory(letters); !slices.Equal(got, events) || !ok {
		t.Errorf("ReadHistory(%q) = %v, %v, want %v", letters, got, ok, events)
	}
}

func TestHistories(t *testing.T) {
	checkHistory(t, nil, "")
	checkHistory(t, []int64{}, "")
	checkHistory(t, []int64{impl.RayCross, impl.RayTurn, impl.RaySurface, impl.RayBottom}, "ctsb")
	checkHistory(t, []int64{impl.RayTurn, impl.RayBottom}, "tb")
	for event, letter := range map[int64]string{1: "c", 2: "t", 3: "s", 4: "b"} {
		for n := range impl.MaxEvents + 1 {
			checkHistory(t, slices.Repeat([]int64{event}, n), strings.Repeat(letter, n))
		}
		if got := impl.HistoryText(slices.Repeat([]int64{event}, impl.MaxEvents+1)); got != "" {
			t.Errorf("HistoryText of 101 events = %q", got)
		}
		checkNoHistory(t, strings.Repeat(letter, impl.MaxEvents+1))
		checkNoHistory(t, strings.Repeat(letter, 5000))
	}
}

func TestNoHistories(t *testing.T) {
	for _, event := range []int64{0, 5, -1, -4, 6, 'c', 1 + 1<<8, 1 + 1<<32, 4 - 1<<32, math.MinInt64, math.MinInt64 + 1, math.MaxInt64} {
		for _, events := range [][]int64{{event}, {1, event}, {event, 4}, {1, 2, event, 4}, append(slices.Repeat([]int64{1}, 99), event)} {
			if got := impl.HistoryText(events); got != "" {
				t.Errorf("HistoryText(%v) = %q", events, got)
			}
		}
	}
	for letter := range 256 {
		s := string([]byte{byte(letter)})
		if !strings.Contains("ctsb", s) {
			checkNoHistory(t, s)
			checkNoHistory(t, "ct"+s)
			checkNoHistory(t, s+"sb")
			checkNoHistory(t, strings.Repeat("c", 99)+s)
		}
	}
	for _, s := range []string{" ", "C", "CTSB", "c t", "c,t", "c\n", " c", "c ", "1", "12", "x", "\x00", "c\x00", "\xff", "\u0441", "c\u0442", "\u00e7"} {
		checkNoHistory(t, s)
	}
}

// TestTracesAreRecovered reads the letters of traces.
func TestTracesAreRecovered(t *testing.T) {
	for _, l := range someRays() {
		for _, n := range []int64{0, 1, 17, impl.MaxEvents} {
			events, _, _ := impl.TraceRay(l.p, l.source, l.d, n)
			got, ok := impl.ReadHistory(impl.HistoryText(events))
			if !slices.Equal(got, events) || !ok || int64(len(got)) != n {
				t.Fatalf("ReadHistory of %v = %v, %v", events, got, ok)
			}
		}
	}
}

// TestRaysShareNothing checks that no function changes its arguments or what lies behind them, and
// that results that are changed do not change later ones.
func TestRaysShareNothing(t *testing.T) {
	for _, p := range append(someSpeeds(), invalidProfiles()...) {
		depths, speeds := append(slices.Clone(p.Depths), 8, 8, 8), append(slices.Clone(p.Speeds), 9, 9, 9)
		wasDepths, wasSpeeds := slices.Clone(depths), slices.Clone(speeds)
		q, d := profile(depths[:len(p.Depths)], speeds[:len(p.Speeds)]), direction(4, 3, 5)
		impl.IsRayState(q, 0, d, impl.RayState{})
		impl.FirstState(q, 0, d)
		impl.StepRay(q, 0, d, impl.RayState{Down: true})
		impl.DeepestOf(q, 0, d, 9)
		events, _, _ := impl.TraceRay(q, 0, d, 9)
		ranges, _ := impl.RangesOf(q, 0, d, 9)
		again, _, _ := impl.TraceRay(q, 0, d, 9)
		fill(again, 7)
		more, _ := impl.RangesOf(q, 0, d, 9)
		for i := range more {
			more[i] = span(7, 7)
		}
		if !slices.Equal(depths, wasDepths) || !slices.Equal(speeds, wasSpeeds) {
			t.Errorf("%v was changed to %v", p, q)
		}
		if slices.Contains(events, 7) || slices.Contains(ranges, span(7, 7)) {
			t.Errorf("results for %v share memory", p)
		}
	}
	events := slices.Repeat([]int64{3}, 5)
	impl.HistoryText(events[:2])
	first, _ := impl.ReadHistory("ss")
	second, _ := impl.ReadHistory("ss")
	fill(second, 7)
	if !slices.Equal(events, slices.Repeat([]int64{3}, 5)) || slices.Contains(first, 7) {
		t.Errorf("histories %v and %v share memory", events, first)
	}
}
