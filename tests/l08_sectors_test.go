package tests

import (
	"math"
	"math/big"
	"runtime"
	"slices"
	"sync"
	"testing"

	"loop.example/g00915/impl"
)

// section is a cell between two directions, whose rays make some steps from a source.
type section struct {
	p      impl.Profile
	source int64
	d, e   impl.Direction
	steps  int64
}

// sweep is a fan of directions, whose rays make some steps from a source.
type sweep struct {
	p            impl.Profile
	source       int64
	n, low, high int64
	down         bool
	steps        int64
}

// turned returns s with its directions in the other order.
func (s section) turned() section {
	s.d, s.e = s.e, s.d
	return s
}

// route returns the events of a ray, what each of them adds to the range, and the state behind them.
func (l launch) route(steps int64) ([]int64, []impl.Interval, impl.RayState) {
	var events []int64
	var added []impl.Interval
	x := l.first()
	for range steps {
		event, behind := l.next(x)
		events = append(events, event)
		added = append(added, span(behind.Range.Low-x.Range.Low, behind.Range.High-x.Range.High))
		x = behind
	}
	return events, added, x
}

// facts are what the chapter tells of a cell.
type facts struct {
	sameHistory bool
	bounds      impl.Interval
	d, e        impl.RayState
}

func (s section) facts() facts {
	events, added, d := launch{s.p, s.source, s.d}.route(s.steps)
	others, more, e := launch{s.p, s.source, s.e}.route(s.steps)
	told := facts{sameHistory: slices.Equal(events, others), d: d, e: e}
	for i := range added {
		told.bounds.Low += min(added[i].Low, more[i].Low)
		told.bounds.High += max(added[i].High, more[i].High)
	}
	return told
}

func (told facts) verdict(knot, distance int64) int64 {
	if !told.sameHistory {
		return impl.CellOpen
	}
	if told.d.Knot != knot || distance < told.bounds.Low || distance > told.bounds.High {
		return impl.CellFree
	}
	near, far := told.d.Range, told.e.Range
	if near.Low > far.Low {
		near, far = far, near
	}
	if near.High < distance && distance < far.Low {
		return impl.CellCertain
	}
	return impl.CellOpen
}

// distances returns distances at, next to and far from all bounds of a cell.
func (told facts) distances() []int64 {
	list := []int64{0, 1, top - 1, top}
	for _, a := range []impl.Interval{told.bounds, told.d.Range, told.e.Range} {
		for _, x := range []int64{a.Low - 1, a.Low, a.Low + 1, (a.Low + a.High) / 2, a.High - 1, a.High, a.High + 1} {
			if x >= 0 && x <= top {
				list = append(list, x)
			}
		}
	}
	return append(list, (told.d.Range.Low+told.e.Range.Low)/2)
}

func (w sweep) fan() []impl.Direction {
	var list []impl.Direction
	for m := w.low; m <= w.high; m++ {
		d, _ := impl.MakeDirection(m, w.n, w.down)
		list = append(list, d)
	}
	return list
}

// sections returns the cells of a fan, in order.
func (w sweep) sections() []section {
	var list []section
	fan := w.fan()
	for i := 1; i < len(fan); i++ {
		list = append(list, section{w.p, w.source, fan[i-1], fan[i], w.steps})
	}
	return list
}

// caustics counts the changes as the chapter defines them, by a look at any two pairs of directions.
func (w sweep) caustics() int64 {
	var trends []int64
	var changed []bool
	for _, s := range w.sections() {
		told, trend := s.facts(), int64(0)
		if told.sameHistory && told.d.Range.High < told.e.Range.Low {
			trend = 1
		}
		if told.sameHistory && told.d.Range.Low > told.e.Range.High {
			trend = -1
		}
		trends, changed = append(trends, trend), append(changed, !told.sameHistory)
	}
	count := int64(0)
	for j := range trends {
		for i := range j {
			isLast := !slices.ContainsFunc(trends[i+1:j], func(x int64) bool { return x != 0 })
			if trends[i]*trends[j] == -1 && isLast && !slices.Contains(changed[i:j+1], true) {
				count++
			}
		}
	}
	return count
}

func checkCellRange(t *testing.T, s section, want impl.Interval) {
	t.Helper()
	for _, s := range []section{s, s.turned()} {
		got, code := impl.CellRange(s.p, s.source, s.d, s.e, s.steps)
		if got != want || code != impl.ErrNone {
			t.Errorf("CellRange(%v) = %v, %d, want %v", s, got, code, want)
		}
	}
}

func checkNoCellRange(t *testing.T, s section, want int64) {
	t.Helper()
	for _, s := range []section{s, s.turned()} {
		got, code := impl.CellRange(s.p, s.source, s.d, s.e, s.steps)
		if got != (impl.Interval{}) || code != want {
			t.Errorf("CellRange(%v) = %v, %d, want code %d", s, got, code, want)
		}
	}
}

func checkCellVerdict(t *testing.T, s section, knot, distance, want int64) {
	t.Helper()
	for _, s := range []section{s, s.turned()} {
		got, code := impl.CellVerdict(s.p, s.source, s.d, s.e, s.steps, knot, distance)
		if got != want || code != impl.ErrNone {
			t.Errorf("CellVerdict(%v, %d, %d) = %d, %d, want %d", s, knot, distance, got, code, want)
		}
	}
}

func checkNoCellVerdict(t *testing.T, s section, knot, distance, want int64) {
	t.Helper()
	for _, s := range []section{s, s.turned()} {
		got, code := impl.CellVerdict(s.p, s.source, s.d, s.e, s.steps, knot, distance)
		if got != 0 || code != want {
			t.Errorf("CellVerdict(%v, %d, %d) = %d, %d, want code %d", s, knot, distance, got, code, want)
		}
	}
}

// checkFan checks the verdicts on all cells of a fan, and which of them are told to be open.
func checkFan(t *testing.T, w sweep, knot, distance int64, want []int64) {
	t.Helper()
	got, code := impl.FanVerdicts(w.p, w.source, w.n, w.low, w.high, w.down, w.steps, knot, distance)
	if !slices.Equal(got, want) || code != impl.ErrNone {
		t.Errorf("FanVerdicts(%v, %d, %d) = %v, %d, want %v", w, knot, distance, got, code, want)
	}
	var open []int64
	for i, verdict := range want {
		if verdict != impl.CellFree {
			open = append(open, w.low+int64(i))
		}
	}
	got, code = impl.OpenCells(w.p, w.source, w.n, w.low, w.high, w.down, w.steps, knot, distance)
	if !slices.Equal(got, open) || code != impl.ErrNone {
		t.Errorf("OpenCells(%v, %d, %d) = %v, %d, want %v", w, knot, distance, got, code, open)
	}
}

func checkNoFan(t *testing.T, w sweep, knot, distance, want int64) {
	t.Helper()
	got, code := impl.FanVerdicts(w.p, w.source, w.n, w.low, w.high, w.down, w.steps, knot, distance)
	checkNoList(t, "FanVerdicts", got, code, want)
	got, code = impl.OpenCells(w.p, w.source, w.n, w.low, w.high, w.down, w.steps, knot, distance)
	checkNoList(t, "OpenCells", got, code, want)
}

func checkCaustics(t *testing.T, w sweep, want int64) {
	t.Helper()
	got, code := impl.CountCaustics(w.p, w.source, w.n, w.low, w.high, w.down, w.steps)
	if got != want || code != impl.ErrNone {
		t.Errorf("CountCaustics(%v) = %d, %d, want %d", w, got, code, want)
	}
}

func TestConstantsOfSectors(t *testing.T) {
	if impl.CellFree != 0 || impl.CellOpen != 1 || impl.CellCertain != 2 {
		t.Error("verdicts of chapter 8")
	}
}

// checkFanOf checks the directions of a fan, which become steeper.
func checkFanOf(t *testing.T, w sweep) {
	t.Helper()
	got, code := impl.FanOf(w.n, w.low, w.high, w.down)
	if !slices.Equal(got, w.fan()) || code != impl.ErrNone {
		t.Errorf("FanOf(%v) = %v, %d, want %v", w, got, code, w.fan())
	}
	for i := 1; i < len(got); i++ {
		if order, _ := impl.CompareDirections(got[i-1], got[i]); order != 1 {
			t.Errorf("in FanOf(%v) %v follows %v", w, got[i], got[i-1])
		}
	}
	for _, d := range got {
		if (d.Sin > 0) != w.down {
			t.Errorf("in FanOf(%v) is %v", w, d)
		}
	}
}

func checkNoFanOf(t *testing.T, n, low, high int64) {
	t.Helper()
	if impl.IsFan(n, low, high) {
		t.Errorf("IsFan(%d, %d, %d) = true", n, low, high)
	}
	for _, down := range []bool{true, false} {
		if got, code := impl.FanOf(n, low, high, down); len(got) != 0 || code != impl.ErrInvalid {
			t.Errorf("FanOf(%d, %d, %d, %v) = %v, %d", n, low, high, down, got, code)
		}
	}
}

func TestFanCases(t *testing.T) {
	for _, c := range []struct {
		n, low, high int64
		down         bool
		want         []impl.Direction
	}{
		{2, 1, 1, true, []impl.Direction{direction(3, 4, 5)}},
		{2, 1, 1, false, []impl.Direction{direction(3, -4, 5)}},
		{3, 1, 2, true, []impl.Direction{direction(4, 3, 5), direction(5, 12, 13)}},
		{3, 2, 2, false, []impl.Direction{direction(5, -12, 13)}},
		{4, 1, 3, false, []impl.Direction{direction(15, -8, 17), direction(3, -4, 5), direction(7, -24, 25)}},
		{31, 1, 1, true, []impl.Direction{direction(480, 31, 481)}},
		{31, 5, 6, true, []impl.Direction{direction(468, 155, 493), direction(925, 372, 997)}},
		{30, 9, 10, true, []impl.Direction{direction(91, 60, 109), direction(4, 3, 5)}}, // n * n + high * high at MaxHyp
		{22, 21, 21, false, []impl.Direction{direction(43, -924, 925)}},
	} {
		got, code := impl.FanOf(c.n, c.low, c.high, c.down)
		if !slices.Equal(got, c.want) || code != impl.ErrNone || !impl.IsFan(c.n, c.low, c.high) {
			t.Errorf("FanOf(%d, %d, %d, %v) = %v, %d, want %v", c.n, c.low, c.high, c.down, got, code, c.want)
		}
	}
}

func TestAllFans(t *testing.T) {
	for n := int64(-2); n <= 34; n++ {
		for low := int64(-2); low <= n+2; low++ {
			for high := int64(-2); high <= n+2; high++ {
				if low < 1 || low > high || high > n-1 || n*n+high*high > greatestHyp {
					checkNoFanOf(t, n, low, high)
					continue
				}
				if !impl.IsFan(n, low, high) {
					t.Errorf("IsFan(%d, %d, %d) = false", n, low, high)
				}
				checkFanOf(t, sweep{n: n, low: low, high: high, down: true})
				checkFanOf(t, sweep{n: n, low: low, high: high})
			}
		}
	}
}

// notFans have numbers just beyond their limits, and such whose squares leave 64 bits.
var notFans = [][3]int64{
	{0, 0, 0}, {1, 1, 1}, {5, 0, 2}, {5, 3, 2}, {5, 1, 5}, {5, 5, 5}, {5, -1, 2}, {5, 0, 0}, {-5, 1, 2}, {5, -3, -1}, {-5, -3, -4},
	{31, 1, 7}, {30, 1, 11}, {32, 1, 1}, {22, 1, 22}, {23, 22, 22}, {1000, 1, 1}, {1000, 1, 999},
	{1 << 31, 1, 1}, {1 << 32, 1, 1}, {1 << 32, 1, 1 << 31}, {1<<32 + 5, 1, 2}, {1 << 33, 1 << 32, 1 << 32}, {5, 1, 1<<32 + 2}, {5, 1<<32 + 1, 2}, {5, 1<<32 + 1, 1<<32 + 2},
	{math.MaxInt64, 1, 1}, {math.MaxInt64, 1, math.MaxInt64 - 1}, {5, 1, math.MaxInt64}, {5, math.MinInt64, 2}, {5, 1, math.MinInt64}, {math.MinInt64, 1, 2},
	{math.MinInt64, math.MinInt64, math.MaxInt64}, {math.MaxInt64, math.MaxInt64, math.MaxInt64}, {math.MinInt64, math.MinInt64, math.MinInt64},
}

func TestNoFans(t *testing.T) {
	for _, c := range notFans {
		checkNoFanOf(t, c[0], c[1], c[2])
	}
}

func checkBetween(t *testing.T, d, e, f impl.Direction, want bool) {
	t.Helper()
	if impl.LiesBetween(d, e, f) != want || impl.LiesBetween(e, d, f) != want {
		t.Errorf("LiesBetween(%v, %v, %v) is not %v in both orders", d, e, f, want)
	}
}

func TestDirectionsBetween(t *testing.T) {
	flat, middle, steep := direction(24, 7, 25), direction(4, 3, 5), direction(3, 4, 5)
	flatUp, middleUp, steepUp := direction(24, -7, 25), direction(4, -3, 5), direction(3, -4, 5)
	checkBetween(t, flat, steep, middle, true)
	checkBetween(t, flatUp, steepUp, middleUp, true)
	checkBetween(t, flat, steep, flat, true)
	checkBetween(t, flat, steep, steep, true)
	checkBetween(t, middle, middle, middle, true)
	checkBetween(t, flatUp, steepUp, steepUp, true)
	checkBetween(t, flat, middle, steep, false)
	checkBetween(t, middle, steep, flat, false)
	checkBetween(t, middle, middle, steep, false)
	checkBetween(t, middle, middle, flat, false)
	checkBetween(t, flatUp, middleUp, steepUp, false)
	// The cosines alone would lie between.
	checkBetween(t, flat, steep, middleUp, false)
	checkBetween(t, flatUp, steepUp, middle, false)
	checkBetween(t, flat, steepUp, middle, false)
	checkBetween(t, flat, steepUp, middleUp, false)
	checkBetween(t, middle, middleUp, middle, false)
	checkBetween(t, middle, middle, middleUp, false)
	checkBetween(t, direction(925, 372, 997), direction(924, 43, 925), direction(527, 336, 625), false)
	checkBetween(t, direction(925, 372, 997), direction(43, 924, 925), direction(527, 336, 625), true)
}

func TestAllDirectionsBetween(t *testing.T) {
	list := someDirections()
	for i, d := range list {
		for j := 0; j <= i; j += 3 {
			e := list[j]
			flatter, steeper := big.NewRat(d.Cos, d.Hyp), big.NewRat(e.Cos, e.Hyp)
			if flatter.Cmp(steeper) < 0 {
				flatter, steeper = steeper, flatter
			}
			for k := i % 5; k < len(list); k += 5 {
				f := list[k]
				cosine := big.NewRat(f.Cos, f.Hyp)
				isSame := (d.Sin > 0) == (e.Sin > 0) && (e.Sin > 0) == (f.Sin > 0)
				checkBetween(t, d, e, f, isSame && flatter.Cmp(cosine) >= 0 && cosine.Cmp(steeper) >= 0)
			}
		}
	}
}

func TestInvalidDirectionsLieNowhere(t *testing.T) {
	d, e := direction(4, 3, 5), direction(3, 4, 5)
	for _, other := range invalidDirections {
		checkBetween(t, d, e, other, false)
		checkBetween(t, d, d, other, false)
		checkBetween(t, other, e, e, false)
		checkBetween(t, other, e, d, false)
		checkBetween(t, other, e, other, false)
		checkBetween(t, other, other, d, false)
		checkBetween(t, other, other, other, false)
		up := other
		up.Sin = -up.Sin
		checkBetween(t, direction(4, -3, 5), direction(3, -4, 5), up, false)
	}
}

// someVerdict is the verdict for a receiver.
type someVerdict struct{ knot, distance, want int64 }

func TestCellCases(t *testing.T) {
	line, rise := evenProfile(2, 1000, 1500000), evenProfile(2, 3000, 1500000, 1600000)
	steps := profile([]int64{0, 1000, 4000}, []int64{1500000, 1500000, 1600000})
	flat, middle, steep := direction(24, 7, 25), direction(4, 3, 5), direction(3, 4, 5)
	flattest := direction(899, 60, 901)
	const free, open, certain = impl.CellFree, impl.CellOpen, impl.CellCertain
	for _, c := range []struct {
		s        section
		bounds   impl.Interval
		verdicts []someVerdict
	}{
		// The range falls; the ends have 1333 to 1334 and 750.
		{section{line, 0, middle, steep, 1}, span(750, 1334), []someVerdict{
			{1, 749, free}, {1, 750, open}, {1, 751, certain}, {1, 1000, certain}, {1, 1332, certain}, {1, 1333, open}, {1, 1334, open}, {1, 1335, free},
			{0, 749, free}, {0, 750, free}, {0, 1000, free}, {0, 1334, free}, {1, 0, free}, {1, top, free},
		}},
		// The range grows; the ends have 6006 to 6007 and 26250.
		{section{rise, 0, flattest, flat, 1}, span(6006, 26250), []someVerdict{
			{0, 6005, free}, {0, 6006, open}, {0, 6007, open}, {0, 6008, certain}, {0, 26249, certain}, {0, 26250, open}, {0, 26251, free},
			{1, 6008, free}, {1, 26250, free}, {0, 0, free}, {0, top, free},
		}},
		// The cell is wider than its ends with 20989 to 20991 and 29678 to 29679: one event gives less, and the other one more.
		{section{steps, 0, flattest, flat, 2}, span(9434, 41234), []someVerdict{
			{1, 9433, free}, {1, 9434, open}, {1, 15000, open}, {1, 20988, open}, {1, 20989, open}, {1, 20991, open}, {1, 20992, certain}, {1, 25000, certain},
			{1, 29677, certain}, {1, 29678, open}, {1, 29679, open}, {1, 29680, open}, {1, 41234, open}, {1, 41235, free}, {0, 25000, free}, {2, 25000, free},
		}},
		// No steps: a ray is at its source.
		{section{steps, 1, flat, steep, 0}, span(0, 0), []someVerdict{
			{1, 0, open}, {1, 1, free}, {1, top, free}, {0, 0, free}, {2, 0, free},
		}},
		// A reflection alone.
		{section{steps, 0, direction(24, -7, 25), direction(3, -4, 5), 1}, span(0, 0), []someVerdict{
			{0, 0, open}, {0, 1, free}, {1, 0, free},
		}},
		// The greatest number of steps.
		{section{line, 0, middle, steep, impl.MaxEvents}, span(37500, 66700), []someVerdict{
			{0, 37499, free}, {0, 37500, open}, {0, 37501, certain}, {0, 66649, certain}, {0, 66650, open}, {0, 66700, open}, {0, 66701, free}, {1, 50000, free}, {0, 0, free}, {0, top, free},
		}},
		// A cell of one direction.
		{section{line, 1, direction(4, -3, 5), direction(4, -3, 5), 1}, span(1333, 1334), []someVerdict{
			{0, 1332, free}, {0, 1333, open}, {0, 1334, open}, {0, 1335, free}, {1, 1333, free},
		}},
		// Ends so close that no distance is certain.
		{section{evenProfile(2, 1, 1500000), 0, middle, steep, 1}, span(0, 2), []someVerdict{
			{1, 0, open}, {1, 1, open}, {1, 2, open}, {1, 3, free}, {0, 1, free},
		}},
	} {
		checkCellRange(t, c.s, c.bounds)
		for _, v := range c.verdicts {
			checkCellVerdict(t, c.s, v.knot, v.distance, v.want)
		}
	}
}

// TestCellsWithTwoHistories checks that nothing is known of a cell as soon as the histories of its
// ends differ, also if they come to the same knot.
func TestCellsWithTwoHistories(t *testing.T) {
	steps := profile([]int64{0, 1000, 4000}, []int64{1500000, 1500000, 1600000})
	flat, steep := direction(24, 7, 25), direction(3, 4, 5)
	checkCellRange(t, section{steps, 0, flat, steep, 1}, span(750, 3429))
	checkCellVerdict(t, section{steps, 0, flat, steep, 1}, 1, 1000, impl.CellCertain)
	checkCellVerdict(t, section{steps, 0, flat, steep, 1}, 2, 1000, impl.CellFree)
	for _, n := range []int64{2, 3, 4, 5, 50, impl.MaxEvents} {
		s := section{steps, 0, flat, steep, n}
		checkNoCellRange(t, s, impl.ErrState)
		for knot := range int64(3) {
			for _, distance := range []int64{0, 1, 3000, 29678, 10000000, top} {
				checkCellVerdict(t, s, knot, distance, impl.CellOpen)
			}
		}
	}
	// The events tst and cbc, both to the knot 0.
	rise := section{evenProfile(2, 3000, 1500000, 1600000), 0, flat, steep, 3}
	checkNoCellRange(t, rise, impl.ErrState)
	checkCellVerdict(t, rise, 0, 5, impl.CellOpen)
	checkCellVerdict(t, rise, 1, 5, impl.CellOpen)
	// A far knot that one end only just crosses, or just does not.
	just := section{evenProfile(2, 1000, slowest, 1625000), 0, direction(4, 3, 5), steep, 1}
	checkNoCellRange(t, just, impl.ErrState)
	checkCellVerdict(t, just, 0, 5, impl.CellOpen)
	just.p.Speeds[1]--
	checkCellVerdict(t, just, 0, 5, impl.CellFree)
}

// someSections returns cells between directions that lie more and less far apart.
func someSections(steps ...int64) []section {
	var list []section
	var some []impl.Direction
	for i, d := range someDirections() {
		if i < 12 || i%40 == 0 {
			some = append(some, d)
		}
	}
	for _, p := range someSpeeds() {
		for source := range knotsOf(p) {
			for i, d := range some {
				for j, e := range some[:i+1] {
					if (d.Sin > 0) == (e.Sin > 0) && (i+j+int(source))%4 == 0 {
						list = append(list, section{p, source, d, e, steps[(i+j)/4%len(steps)]})
					}
				}
			}
		}
	}
	return list
}

// TestAllCells compares ranges and verdicts with those that the chapter defines.
func TestAllCells(t *testing.T) {
	seen := map[int64]int{}
	for _, s := range someSections(0, 1, 2, 3, 5, 12) {
		told := s.facts()
		if told.sameHistory {
			checkCellRange(t, s, told.bounds)
		} else {
			checkNoCellRange(t, s, impl.ErrState)
		}
		for i, distance := range told.distances() {
			verdict := told.verdict(told.d.Knot, distance)
			checkCellVerdict(t, s, told.d.Knot, distance, verdict)
			seen[verdict]++
			other := int64(i) % knotsOf(s.p)
			checkCellVerdict(t, s, other, distance, told.verdict(other, distance))
		}
	}
	if len(seen) != 3 {
		t.Errorf("verdicts %v", seen)
	}
}

// exactRoute returns the exact range of a ray, and the state behind its steps.
func (l launch) exactRoute(steps int64) (*big.Float, impl.RayState) {
	x, sum := l.first(), new(big.Float).SetPrec(300)
	for range steps {
		event, behind := l.next(x)
		if event == impl.RayCross || event == impl.RayTurn {
			sum.Add(sum, l.approach(x).exactRange())
		}
		x = behind
	}
	return sum, x
}

// between returns some directions of a cell, its ends among them.
func (s section) between() []impl.Direction {
	list := []impl.Direction{s.d, s.e}
	for i, f := range someDirections() {
		if impl.LiesBetween(s.d, s.e, f) && (i < 12 || i%6 == 0) {
			list = append(list, f)
		}
	}
	return list
}

// TestFreeCellsAreNotMet checks that no direction of a cell meets a receiver for which the cell is
// told to be free: the integers next to the exact range of each direction are not free, so that no
// range that is an integer is.
func TestFreeCellsAreNotMet(t *testing.T) {
	for i, s := range someSections(1, 2, 4, 7) {
		if i%3 > 0 {
			continue
		}
		for _, f := range s.between() {
			far, x := launch{s.p, s.source, f}.exactRoute(s.steps)
			down, _ := far.Int64()
			for _, distance := range []int64{down, down + 1} {
				if far.Cmp(new(big.Float).SetInt64(down)) == 0 && distance > down {
					continue
				}
				got, code := impl.CellVerdict(s.p, s.source, s.d, s.e, s.steps, x.Knot, distance)
				if got == impl.CellFree || code != impl.ErrNone {
					t.Errorf("CellVerdict(%v, %d, %d) = %d, %d, but %v comes to %v", s, x.Knot, distance, got, code, f, far)
				}
			}
		}
	}
}

// TestCertainCellsAreMet checks that the exact ranges of the ends lie on both sides of a distance
// that is certain, so that a direction between them has it.
func TestCertainCellsAreMet(t *testing.T) {
	found := 0
	for i, s := range someSections(1, 2, 4, 7) {
		if i%3 > 0 {
			continue
		}
		d, x := launch{s.p, s.source, s.d}.exactRoute(s.steps)
		e, y := launch{s.p, s.source, s.e}.exactRoute(s.steps)
		for _, distance := range s.facts().distances() {
			if got, _ := impl.CellVerdict(s.p, s.source, s.d, s.e, s.steps, x.Knot, distance); got != impl.CellCertain {
				continue
			}
			there := new(big.Float).SetInt64(distance)
			if d.Cmp(there)*e.Cmp(there) != -1 || x.Knot != y.Knot {
				t.Errorf("%v has certainly a ray to %d, with the ends %v and %v", s, distance, d, e)
			}
			found++
		}
	}
	if found == 0 {
		t.Error("no certain cells")
	}
}

// TestDirectionsOfFansAreFound checks that each direction of a fan that meets a receiver lies in an
// open cell of each fan around it.
func TestDirectionsOfFansAreFound(t *testing.T) {
	line := evenProfile(2, 1000, 1500000)
	for _, c := range []struct{ n, m, distance int64 }{{2, 1, 750}, {5, 1, 2400}, {5, 2, 1050}, {4, 1, 1875}, {10, 5, 750}, {20, 10, 750}} {
		for low := int64(1); low <= c.m; low++ {
			for high := c.m; impl.IsFan(c.n, low, high); high++ {
				var want []int64
				for m := max(low, c.m-1); m <= min(c.m, high-1); m++ {
					want = append(want, m)
				}
				got, code := impl.OpenCells(line, 0, c.n, low, high, true, 1, 1, c.distance)
				checkList(t, "OpenCells", got, code, want)
			}
		}
	}
}

func TestFanVerdictCases(t *testing.T) {
	line := evenProfile(2, 1000, 1500000)
	sea := profile([]int64{0, 20000, 40000}, []int64{1500000, 1500000, 1700000})
	const free, open, certain = impl.CellFree, impl.CellOpen, impl.CellCertain
	// The ranges are 2400, 1050, 533 to 534 and 225.
	down, up := sweep{line, 0, 5, 1, 4, true, 1}, sweep{line, 1, 5, 1, 4, false, 1}
	for _, c := range []struct {
		distance int64
		want     []int64
	}{
		{0, []int64{free, free, free}}, {224, []int64{free, free, free}}, {225, []int64{free, free, open}}, {226, []int64{free, free, certain}},
		{532, []int64{free, free, certain}}, {533, []int64{free, open, open}}, {534, []int64{free, open, open}}, {535, []int64{free, certain, free}},
		{1049, []int64{free, certain, free}}, {1050, []int64{open, open, free}}, {1051, []int64{certain, free, free}},
		{2399, []int64{certain, free, free}}, {2400, []int64{open, free, free}}, {2401, []int64{free, free, free}}, {top, []int64{free, free, free}},
	} {
		checkFan(t, down, 1, c.distance, c.want)
		checkFan(t, up, 0, c.distance, c.want)
		checkFan(t, down, 0, c.distance, []int64{free, free, free})
		checkFan(t, up, 1, c.distance, []int64{free, free, free})
		checkFan(t, sweep{line, 0, 5, 2, 4, true, 1}, 1, c.distance, c.want[1:])
		checkFan(t, sweep{line, 0, 5, 2, 3, true, 1}, 1, c.distance, c.want[1:2])
		for m := int64(1); m <= 4; m++ {
			checkFan(t, sweep{line, 0, 5, m, m, true, 1}, 1, c.distance, nil)
		}
	}
	// Fans at their bounds have 21 and 6 directions.
	checkFan(t, sweep{line, 0, 22, 1, 21, true, 0}, 0, 0, slices.Repeat([]int64{open}, 20))
	checkFan(t, sweep{line, 0, 31, 1, 6, false, 0}, 0, 0, slices.Repeat([]int64{open}, 5))
	checkFan(t, sweep{line, 0, 31, 6, 6, false, impl.MaxEvents}, 0, 0, nil)
	// Behind the first seven directions, which turn, the history is another one. The first cells have
	// the ranges 318688 to 639513, 238178 to 359275, and 207938 to 279448.
	turns := sweep{sea, 0, 30, 1, 10, true, 3}
	checkFan(t, turns, 0, 220000, []int64{free, free, open, certain, certain, open, open, free, free})
	checkFan(t, turns, 0, 500000, []int64{certain, free, free, free, free, free, open, free, free})
	checkFan(t, turns, 2, 70000, []int64{free, free, free, free, free, free, open, free, certain})
	checkFan(t, turns, 1, 70000, []int64{free, free, free, free, free, free, open, free, free})
}

// someSweeps returns fans of all kinds.
func someSweeps(steps ...int64) []sweep {
	var list []sweep
	limits := [][3]int64{{2, 1, 1}, {5, 1, 4}, {31, 1, 6}, {31, 4, 4}, {30, 1, 10}, {25, 1, 19}, {22, 1, 21}, {22, 12, 21}, {30, 4, 7}}
	for i, p := range someSpeeds() {
		for source := range knotsOf(p) {
			for j, c := range limits {
				k := i + j + int(source)
				if k%3 == 0 {
					list = append(list, sweep{p, source, c[0], c[1], c[2], k%2 == 0, steps[k/3%len(steps)]})
				}
			}
		}
	}
	return list
}

// TestAllFanVerdicts compares the verdicts on fans with those on their cells as the chapter defines
// them, at and near the bounds of each cell.
func TestAllFanVerdicts(t *testing.T) {
	for i, w := range someSweeps(0, 1, 2, 3, 5, 12) {
		var list []facts
		for _, s := range w.sections() {
			list = append(list, s.facts())
		}
		for j, near := range list {
			distances := near.distances()
			distance := distances[(i+j)%len(distances)]
			for _, knot := range []int64{near.d.Knot, int64(j) % knotsOf(w.p)} {
				var verdicts []int64
				for _, told := range list {
					verdicts = append(verdicts, told.verdict(knot, distance))
				}
				checkFan(t, w, knot, distance, verdicts)
			}
		}
	}
}

func TestCausticCases(t *testing.T) {
	sea, shallow := profile([]int64{0, 20000, 40000}, []int64{1500000, 1500000, 1700000}), profile([]int64{0, 20, 40}, []int64{1500000, 1500000, 1700000})
	bowl := profile([]int64{0, 8000, 47000, 90000}, []int64{1350000, 1346000, 1453000, 1677000})
	axis := profile([]int64{0, 35000, 64000, 82000, 101000}, []int64{1465000, 1392000, 1410000, 1530000, 1695000})
	for _, c := range []struct {
		w    sweep
		want int64
	}{
		// The ranges fall from 619354 to 219523, grow to 229107, and fall behind another history.
		{sweep{sea, 0, 30, 1, 10, true, 3}, 1},
		{sweep{sea, 0, 30, 1, 10, false, 4}, 1},
		{sweep{sea, 0, 30, 1, 10, true, 1}, 0},
		{sweep{sea, 0, 30, 1, 10, true, 0}, 0},
		{sweep{sea, 0, 30, 1, 5, true, 3}, 0},
		{sweep{sea, 0, 30, 1, 6, true, 3}, 1},
		{sweep{sea, 0, 30, 4, 6, true, 3}, 1},
		{sweep{sea, 0, 30, 5, 6, true, 3}, 0},
		{sweep{sea, 0, 30, 5, 10, true, 3}, 0},
		{sweep{sea, 0, 30, 6, 10, true, 3}, 0},
		{sweep{sea, 0, 30, 5, 5, true, 3}, 0},
		// The ranges 218 to 221 and 221 neither grow nor fall; the next ones are 228 to 231.
		{sweep{shallow, 0, 30, 1, 6, true, 3}, 0},
		{sweep{shallow, 0, 30, 5, 7, true, 3}, 0},
		{sweep{shallow, 0, 30, 4, 6, true, 3}, 0},
		{sweep{shallow, 0, 30, 4, 7, true, 3}, 1},
		{sweep{shallow, 0, 30, 1, 10, true, 3}, 1},
		// They fall and grow in one history, again in another one, and fall in a third one.
		{sweep{bowl, 1, 22, 1, 21, true, 7}, 2},
		{sweep{bowl, 1, 22, 1, 4, true, 7}, 1},
		{sweep{bowl, 1, 22, 2, 6, true, 7}, 0},
		{sweep{bowl, 1, 22, 2, 7, true, 7}, 1},
		{sweep{bowl, 1, 22, 6, 21, true, 7}, 0},
		// They grow, fall and grow in one history.
		{sweep{axis, 3, 28, 1, 14, true, 6}, 2},
		{sweep{axis, 3, 28, 1, 3, true, 6}, 1},
		{sweep{axis, 3, 28, 1, 2, true, 6}, 0},
		{sweep{axis, 3, 28, 2, 6, true, 6}, 1},
		{sweep{axis, 3, 28, 4, 14, true, 6}, 0},
	} {
		checkCaustics(t, c.w, c.want)
		if got := c.w.caustics(); got != c.want {
			t.Errorf("the chapter gives %v %d changes, want %d", c.w, got, c.want)
		}
	}
}

// TestAllCaustics compares the changes of fans with the definition, in profiles in which the ranges
// are so small that many of them are not surely different.
func TestAllCaustics(t *testing.T) {
	found := map[int64]int{}
	for _, w := range someSweeps(1, 2, 3, 5, 9, 12) {
		want := w.caustics()
		checkCaustics(t, w, want)
		found[want]++
	}
	for scale := int64(1); scale < 3000; scale = scale*3/2 + 1 {
		for _, speeds := range [][]int64{{1500000, 1500000, 1700000}, {1350000, 1346000, 1453000, 1677000}, {1465000, 1392000, 1410000, 1530000, 1695000}} {
			p := evenProfile(int64(len(speeds)), 17*scale, speeds...)
			for source := range knotsOf(p) {
				w := sweep{p, source, 22, 1, 21, source%2 == 0, 3 + 2*(scale%3)}
				want := w.caustics()
				checkCaustics(t, w, want)
				found[want]++
			}
		}
	}
	if found[0] == 0 || found[1] == 0 || found[2] == 0 {
		t.Errorf("changes %v", found)
	}
}

// TestLongestCells has the cells next to the longest ray, and checks that the fans with the longest
// rays stay below MaxValue, so that there is no test of ErrLimit.
func TestLongestCells(t *testing.T) {
	p := profile([]int64{0, 1, deepest}, []int64{1685636, 1699727, 1699727})
	d := direction(957, 124, 965)
	for _, e := range []impl.Direction{d, direction(4, 3, 5), direction(43, 924, 925)} {
		s := section{p, 0, d, e, impl.MaxEvents}
		told := s.facts()
		if told.bounds.High < 960000000000 || told.bounds.High > 980000000000 {
			t.Errorf("%v has the range %v", s, told.bounds)
		}
		checkCellRange(t, s, told.bounds)
		for _, distance := range told.distances() {
			checkCellVerdict(t, s, told.d.Knot, distance, told.verdict(told.d.Knot, distance))
		}
	}
	for _, n := range []int64{22, 25, 31} {
		high := n - 1
		for !impl.IsFan(n, 1, high) {
			high--
		}
		if _, code := impl.CountCaustics(p, 0, n, 1, high, true, impl.MaxEvents); code != impl.ErrNone {
			t.Errorf("CountCaustics has code %d", code)
		}
	}
}

// notCounts are numbers of steps beyond their limits, and notDistances such distances.
var (
	notCounts    = []int64{-1, -2, -impl.MaxEvents, impl.MaxEvents + 1, impl.MaxEvents + 2, 1 << 32, 1<<32 + 1, math.MinInt64, math.MaxInt64}
	notDistances = []int64{-1, -2, -top, top + 1, top + 2, math.MinInt64, math.MaxInt64}
)

// TestSectorRangeErrors has one number after the other beyond its limits.
func TestSectorRangeErrors(t *testing.T) {
	for _, p := range someSpeeds() {
		s, w := section{p, 0, direction(4, 3, 5), direction(3, 4, 5), 1}, sweep{p, 0, 5, 1, 4, true, 1}
		for _, steps := range notCounts {
			s.steps, w.steps = steps, steps
			checkNoSector(t, s, w, 0, 0, impl.ErrRange)
		}
		s.steps, w.steps = 1, 1
		for _, knot := range notKnots(p) {
			s.source, w.source = knot, knot
			checkNoSector(t, s, w, 0, 0, impl.ErrRange)
			s.source, w.source = 0, 0
			checkNoReceiver(t, s, w, knot, 0, impl.ErrRange)
		}
		for _, distance := range notDistances {
			checkNoReceiver(t, s, w, 1, distance, impl.ErrRange)
		}
	}
}

// checkNoReceiver checks the functions that take a receiver, also with fans of one direction.
func checkNoReceiver(t *testing.T, s section, w sweep, knot, distance, want int64) {
	t.Helper()
	checkNoCellVerdict(t, s, knot, distance, want)
	checkNoFan(t, w, knot, distance, want)
	w.high = w.low
	checkNoFan(t, w, knot, distance, want)
}

// checkNoSector checks all functions that take a profile.
func checkNoSector(t *testing.T, s section, w sweep, knot, distance, want int64) {
	t.Helper()
	checkNoReceiver(t, s, w, knot, distance, want)
	checkNoCellRange(t, s, want)
	for _, high := range []int64{w.high, w.low} {
		got, code := impl.CountCaustics(w.p, w.source, w.n, w.low, high, w.down, w.steps)
		checkNoNumber(t, "CountCaustics", got, code, want)
	}
}

// TestOrderOfSectorErrors has arguments with several errors at once.
func TestOrderOfSectorErrors(t *testing.T) {
	valid := evenProfile(3, 10, slowest, fastest, 1600001)
	down, steep, up := direction(4, 3, 5), direction(3, 4, 5), direction(3, -4, 5)
	type place struct{ source, steps, knot, distance int64 }
	places := []place{{0, 1, 0, 0}, {3, 1, 0, 0}, {-1, 1, 0, 0}, {0, -1, 0, 0}, {0, 101, 0, 0}, {0, 1, 3, 0}, {0, 1, -1, 0}, {0, 1, 0, -1}, {0, 1, 0, top + 1}, {9, 999, 9, -9}, {math.MinInt64, math.MinInt64, math.MinInt64, math.MinInt64}}
	for _, x := range places {
		fan := sweep{valid, x.source, 5, 1, 4, true, x.steps}
		for _, p := range invalidProfiles() {
			for _, e := range []impl.Direction{steep, up, {}} {
				fan.p = p
				checkNoSector(t, section{p, x.source, down, e, x.steps}, fan, x.knot, x.distance, impl.ErrInvalid)
			}
		}
		for _, d := range invalidDirections {
			for _, e := range []impl.Direction{down, up, d} {
				s := section{valid, x.source, d, e, x.steps}
				checkNoCellVerdict(t, s, x.knot, x.distance, impl.ErrInvalid)
				checkNoCellRange(t, s, impl.ErrInvalid)
			}
		}
		for _, c := range notFans {
			w := sweep{valid, x.source, c[0], c[1], c[2], true, x.steps}
			checkNoFan(t, w, x.knot, x.distance, impl.ErrInvalid)
			got, code := impl.CountCaustics(w.p, w.source, w.n, w.low, w.high, w.down, w.steps)
			checkNoNumber(t, "CountCaustics", got, code, impl.ErrInvalid)
		}
		// Directions that go one down and one up count behind all numbers, but not without them.
		want := int64(impl.ErrRange)
		if x == places[0] {
			want = impl.ErrState
		}
		checkNoCellVerdict(t, section{valid, x.source, down, up, x.steps}, x.knot, x.distance, want)
	}
	for _, steps := range []int64{0, 1, 5, impl.MaxEvents} {
		checkNoCellRange(t, section{valid, 0, down, up, steps}, impl.ErrState)
		checkNoCellRange(t, section{valid, 0, down, direction(4, -3, 5), steps}, impl.ErrState)
		checkNoCellVerdict(t, section{valid, 0, down, up, steps}, 0, 0, impl.ErrState)
		checkNoCellVerdict(t, section{valid, 2, down, direction(4, -3, 5), steps}, 2, top, impl.ErrState)
	}
	for _, steps := range notCounts {
		checkNoCellRange(t, section{valid, 0, down, up, steps}, impl.ErrRange)
	}
	checkNoCellRange(t, section{valid, 3, down, up, 1}, impl.ErrRange)
}

// TestFansLeaveNothingBehind checks that calls at the same time have the same results, and that
// nothing goes on behind them.
func TestFansLeaveNothingBehind(t *testing.T) {
	w := sweep{profile([]int64{0, 20000, 40000}, []int64{1500000, 1500000, 1700000}), 0, 22, 1, 21, true, 3}
	want, _ := impl.FanVerdicts(w.p, w.source, w.n, w.low, w.high, w.down, w.steps, 0, 220000)
	before := runtime.NumGoroutine()
	var group sync.WaitGroup
	for range 50 {
		group.Go(func() {
			for range 20 {
				checkFan(t, w, 0, 220000, want)
				checkCaustics(t, w, 1)
			}
		})
	}
	group.Wait()
	for range 1000000 {
		if runtime.NumGoroutine() <= before {
			return
		}
		runtime.Gosched()
	}
	t.Errorf("%d goroutines, there were %d", runtime.NumGoroutine(), before)
}

// TestSectorsShareNothing checks that no function changes its arguments or what lies behind them, and
// that results that are changed do not change later ones.
func TestSectorsShareNothing(t *testing.T) {
	for _, p := range append(someSpeeds(), invalidProfiles()...) {
		depths, speeds := append(slices.Clone(p.Depths), 8, 8, 8), append(slices.Clone(p.Speeds), 9, 9, 9)
		wasDepths, wasSpeeds := slices.Clone(depths), slices.Clone(speeds)
		q, d, e := profile(depths[:len(p.Depths)], speeds[:len(p.Speeds)]), direction(4, 3, 5), direction(3, 4, 5)
		impl.CellRange(q, 0, d, e, 3)
		impl.CellVerdict(q, 0, d, e, 3, 0, 7)
		impl.CountCaustics(q, 0, 5, 1, 4, true, 3)
		first, _ := impl.FanVerdicts(q, 0, 5, 1, 4, true, 0, 0, 0)
		open, _ := impl.OpenCells(q, 0, 5, 1, 4, true, 0, 0, 0)
		second, _ := impl.FanVerdicts(q, 0, 5, 1, 4, true, 0, 0, 0)
		more, _ := impl.OpenCells(q, 0, 5, 1, 4, true, 0, 0, 0)
		fill(second, 7)
		fill(more, 7)
		if !slices.Equal(depths, wasDepths) || !slices.Equal(speeds, wasSpeeds) {
			t.Errorf("%v was changed to %v", p, q)
		}
		if slices.Contains(first, 7) || slices.Contains(open, 7) {
			t.Errorf("results for %v share memory", p)
		}
	}
	first, _ := impl.FanOf(5, 1, 4, true)
	second, _ := impl.FanOf(5, 1, 4, true)
	clear(second)
	if slices.Contains(first, impl.Direction{}) {
		t.Error("results of FanOf share memory")
	}
}
