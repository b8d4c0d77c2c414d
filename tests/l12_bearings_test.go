package tests

import (
	"math"
	"math/big"
	"testing"

	"loop.example/g00915/impl"
)

const (
	edge     = impl.MaxPlane
	quickest = impl.MaxBearing
	lastTime = impl.MaxTime
)

// point is short for the point or the bearing with these coordinates.
func point(x, y int64) impl.Point {
	return impl.Point{X: x, Y: y}
}

// track is short for the track that begins at x, y with the step stepX, stepY.
func track(x, y, stepX, stepY int64) impl.Track {
	return impl.Track{At: point(x, y), Step: point(stepX, stepY)}
}

func from(p, q impl.Point) impl.Point {
	return point(q.X-p.X, q.Y-p.Y)
}

func plus(p, u impl.Point) impl.Point {
	return point(p.X+u.X, p.Y+u.Y)
}

func times(k int64, u impl.Point) impl.Point {
	return point(k*u.X, k*u.Y)
}

// turnedBack returns a vector that points a quarter of a turn to the left.
func turnedBack(u impl.Point) impl.Point {
	return point(-u.Y, u.X)
}

// angleOf returns a measure of the angle of a vector other than {0, 0}: it grows with the angle, by 1
// for each quarter of a turn.
func angleOf(u impl.Point) *big.Rat {
	for quarter := int64(0); ; quarter++ {
		if u.X >= 0 && u.Y > 0 {
			return new(big.Rat).Add(big.NewRat(quarter, 1), big.NewRat(u.X, u.X+u.Y))
		}
		u = turnedBack(u)
	}
}

// wantedSide tells from the angles whether v lies to the right or to the left of u.
func wantedSide(u, v impl.Point) int64 {
	if v == point(0, 0) {
		return 0
	}
	turn, half := new(big.Rat).Sub(angleOf(v), angleOf(u)), big.NewRat(2, 1)
	if turn.Sign() < 0 {
		turn.Add(turn, big.NewRat(4, 1))
	}
	if turn.Sign() == 0 {
		return 0
	}
	return int64(half.Cmp(turn))
}

func checkSide(t *testing.T, p, u, q impl.Point, want int64) {
	t.Helper()
	if got, code := impl.SideOf(p, u, q); got != want || code != impl.ErrNone {
		t.Errorf("SideOf(%v, %v, %v) = %d, %d, want %d", p, u, q, got, code, want)
	}
}

func checkOrder(t *testing.T, u, v impl.Point, want int64) {
	t.Helper()
	if got, code := impl.CompareBearings(u, v); got != want || code != impl.ErrNone {
		t.Errorf("CompareBearings(%v, %v) = %d, %d, want %d", u, v, got, code, want)
	}
}

// sight is a bearing with the point from which it is taken.
type sight struct {
	from, bearing impl.Point
}

func (s sight) fixWith(other sight) (impl.Ratio, impl.Ratio, int64) {
	return impl.CrossFix(s.from, s.bearing, other.from, other.bearing)
}

// mirrored returns a sight with east and north exchanged.
func (s sight) mirrored() sight {
	return sight{point(s.from.Y, s.from.X), point(s.bearing.Y, s.bearing.X)}
}

// offset returns what Y of the bearing times X minus X of the bearing times Y is for all points of
// the line.
func (s sight) offset() int64 {
	return s.bearing.Y*s.from.X - s.bearing.X*s.from.Y
}

// along returns how far the point x, y lies into the direction of a vector, seen from where the sight
// is taken.
func (s sight) along(u impl.Point, x, y *big.Rat) *big.Rat {
	east := new(big.Rat).Sub(x, big.NewRat(s.from.X, 1))
	north := new(big.Rat).Sub(y, big.NewRat(s.from.Y, 1))
	east.Mul(east, big.NewRat(u.X, 1))
	return east.Add(east, north.Mul(north, big.NewRat(u.Y, 1)))
}

// isSeen reports whether the point x, y is on the line of the sight and not behind.
func (s sight) isSeen(x, y *big.Rat) bool {
	return s.along(turnedBack(s.bearing), x, y).Sign() == 0 && s.along(s.bearing, x, y).Sign() >= 0
}

// wantedFix solves the equations of both lines. It returns nil for lines that do not meet in one
// point.
func (s sight) wantedFix(other sight) (x, y *big.Rat) {
	u, v := s.bearing, other.bearing
	den := u.X*v.Y - v.X*u.Y
	if den == 0 {
		return nil, nil
	}
	return big.NewRat(u.X*other.offset()-v.X*s.offset(), den), big.NewRat(u.Y*other.offset()-v.Y*s.offset(), den)
}

func isWithinTerms(x *big.Rat) bool {
	limit := big.NewInt(term)
	return x.Num().CmpAbs(limit) <= 0 && x.Denom().Cmp(limit) <= 0
}

// checkFix checks a fix in both orders of its sights, and mirrored.
func checkFix(t *testing.T, s, other sight, x, y impl.Ratio) {
	t.Helper()
	check := func(s, other sight, x, y impl.Ratio) {
		t.Helper()
		if gotX, gotY, code := s.fixWith(other); gotX != x || gotY != y || code != impl.ErrNone {
			t.Errorf("CrossFix of %v and %v = %v, %v, %d, want %v, %v", s, other, gotX, gotY, code, x, y)
		}
	}
	check(s, other, x, y)
	check(other, s, x, y)
	check(s.mirrored(), other.mirrored(), y, x)
	check(other.mirrored(), s.mirrored(), y, x)
}

func checkNoFix(t *testing.T, s, other sight, want int64) {
	t.Helper()
	for _, c := range [][2]sight{{s, other}, {other, s}, {s.mirrored(), other.mirrored()}, {other.mirrored(), s.mirrored()}} {
		if x, y, code := c[0].fixWith(c[1]); x != (impl.Ratio{}) || y != (impl.Ratio{}) || code != want {
			t.Errorf("CrossFix of %v and %v = %v, %v, %d, want code %d", c[0], c[1], x, y, code, want)
		}
	}
}

// checkAnyFix compares a fix with the wanted one, or its error with the wanted one, which it
// returns. A fix lies on both lines.
func checkAnyFix(t *testing.T, s, other sight) int64 {
	t.Helper()
	want := int64(impl.ErrNone)
	x, y := s.wantedFix(other)
	switch {
	case x == nil:
		want = impl.ErrState
	case !s.isSeen(x, y) || !other.isSeen(x, y):
		want = impl.ErrNotFound
	case !isWithinTerms(x) || !isWithinTerms(y):
		want = impl.ErrLimit
	}
	if want != impl.ErrNone {
		checkNoFix(t, s, other, want)
		return want
	}
	checkFix(t, s, other, ratio(x.Num().Int64(), x.Denom().Int64()), ratio(y.Num().Int64(), y.Denom().Int64()))
	gotX, gotY, _ := s.fixWith(other)
	if !impl.IsRatio(gotX) || !impl.IsRatio(gotY) {
		t.Fatalf("CrossFix of %v and %v = %v, %v is not valid", s, other, gotX, gotY)
	}
	if !s.isSeen(exactOf(gotX), exactOf(gotY)) || !other.isSeen(exactOf(gotX), exactOf(gotY)) {
		t.Errorf("CrossFix of %v and %v = %v, %v is not on both lines", s, other, gotX, gotY)
	}
	return want
}

// meeting is two tracks.
type meeting struct {
	a, b impl.Track
}

func (m meeting) exchanged() meeting {
	return meeting{m.b, m.a}
}

// seenFrom returns the meeting of a with the track that is at r at the time 0, and moves by w, seen
// from a.
func seenFrom(a impl.Track, r, w impl.Point) meeting {
	return meeting{a, impl.Track{At: plus(a.At, r), Step: plus(a.Step, w)}}
}

// squareAt returns the square of the distance of both tracks at a time.
func (m meeting) squareAt(time *big.Rat) *big.Rat {
	square := new(big.Rat)
	for _, c := range [][4]int64{{m.a.At.X, m.a.Step.X, m.b.At.X, m.b.Step.X}, {m.a.At.Y, m.a.Step.Y, m.b.At.Y, m.b.Step.Y}} {
		first := new(big.Rat).Mul(time, big.NewRat(c[1], 1))
		first.Add(first, big.NewRat(c[0], 1))
		second := new(big.Rat).Mul(time, big.NewRat(c[3], 1))
		second.Add(second, big.NewRat(c[2], 1))
		first.Sub(first, second)
		square.Add(square, first.Mul(first, first))
	}
	return square
}

// wantedTime returns the time of at least 0 with the least square, which as a function of the time
// is a parabola through its values at three times. It returns nil if the square is always the same.
func (m meeting) wantedTime() *big.Rat {
	start, one, two := m.squareAt(big.NewRat(0, 1)), m.squareAt(big.NewRat(1, 1)), m.squareAt(big.NewRat(2, 1))
	curve := new(big.Rat).Add(start, two)
	curve.Sub(curve, new(big.Rat).Add(one, one))
	if curve.Sign() == 0 {
		return nil
	}
	// The parabola is start + slope * time + curve / 2 * time * time, and level at -slope / curve.
	slope := new(big.Rat).Sub(one, start)
	slope.Sub(slope, new(big.Rat).Mul(curve, big.NewRat(1, 2)))
	time := slope.Quo(slope.Neg(slope), curve)
	if time.Sign() < 0 {
		return new(big.Rat)
	}
	return time
}

func (m meeting) wantedSquare() *big.Rat {
	if time := m.wantedTime(); time != nil {
		return m.squareAt(time)
	}
	return m.squareAt(new(big.Rat))
}

// checkMeeting checks when two tracks are closest, the square of their distance there, and whether
// they meet, in both orders.
func checkMeeting(t *testing.T, m meeting, time, square impl.Ratio) {
	t.Helper()
	for _, m := range []meeting{m, m.exchanged()} {
		got, code := impl.ClosestTime(m.a, m.b)
		checkRatio(t, "ClosestTime", got, code, time)
	}
	checkSquare(t, m, square)
}

// checkSquare checks the square of the least distance of two tracks and whether they meet, which
// they do if it is 0.
func checkSquare(t *testing.T, m meeting, square impl.Ratio) {
	t.Helper()
	for _, m := range []meeting{m, m.exchanged()} {
		got, code := impl.ClosestSquare(m.a, m.b)
		checkRatio(t, "ClosestSquare", got, code, square)
	}
	checkMeets(t, m, square == ratio(0, 1))
}

func checkMeets(t *testing.T, m meeting, want bool) {
	t.Helper()
	for _, m := range []meeting{m, m.exchanged()} {
		if got, code := impl.DoMeet(m.a, m.b); got != want || code != impl.ErrNone {
			t.Errorf("DoMeet(%v, %v) = %v, %d, want %v", m.a, m.b, got, code, want)
		}
	}
}

func checkNoTime(t *testing.T, m meeting, want int64) {
	t.Helper()
	for _, m := range []meeting{m, m.exchanged()} {
		got, code := impl.ClosestTime(m.a, m.b)
		checkNoRatio(t, "ClosestTime", got, code, want)
	}
}

func checkNoSquare(t *testing.T, m meeting, want int64) {
	t.Helper()
	for _, m := range []meeting{m, m.exchanged()} {
		got, code := impl.ClosestSquare(m.a, m.b)
		checkNoRatio(t, "ClosestSquare", got, code, want)
	}
}

// checkAnyMeeting compares all that is told of two tracks with the wanted answers.
func checkAnyMeeting(t *testing.T, m meeting) {
	t.Helper()
	square := m.wantedSquare()
	if isWithinTerms(square) {
		checkSquare(t, m, ratio(square.Num().Int64(), square.Denom().Int64()))
	} else {
		checkNoSquare(t, m, impl.ErrLimit)
		checkMeets(t, m, false)
	}
	time := m.wantedTime()
	if time == nil {
		checkNoTime(t, m, impl.ErrState)
		return
	}
	got, code := impl.ClosestTime(m.a, m.b)
	checkExact(t, "ClosestTime", got, code, time)
	back, code := impl.ClosestTime(m.b, m.a)
	checkRatio(t, "ClosestTime of exchanged tracks", back, code, got)
	if impl.IsRatio(got) {
		checkNoneIsCloser(t, m, exactOf(got))
	}
}

// checkNoneIsCloser checks that the tracks are farther from each other at all other times.
func checkNoneIsCloser(t *testing.T, m meeting, time *big.Rat) {
	t.Helper()
	least := m.squareAt(time)
	for _, step := range []*big.Rat{big.NewRat(1, term), big.NewRat(1, 1000), big.NewRat(1, 2), big.NewRat(1, 1), big.NewRat(lastTime, 1)} {
		if later := new(big.Rat).Add(time, step); m.squareAt(later).Cmp(least) <= 0 {
			t.Errorf("%v are as close at %v as at %v", m, later, time)
		}
		if earlier := new(big.Rat).Sub(time, step); earlier.Sign() >= 0 && m.squareAt(earlier).Cmp(least) <= 0 {
			t.Errorf("%v are as close at %v as at %v", m, earlier, time)
		}
	}
}

func checkPosition(t *testing.T, a impl.Track, time int64, want impl.Point) {
	t.Helper()
	if got, code := impl.PositionAt(a, time); got != want || code != impl.ErrNone {
		t.Errorf("PositionAt(%v, %d) = %v, %d, want %v", a, time, got, code, want)
	}
}

func checkNoPosition(t *testing.T, a impl.Track, time, want int64) {
	t.Helper()
	if got, code := impl.PositionAt(a, time); got != (impl.Point{}) || code != want {
		t.Errorf("PositionAt(%v, %d) = %v, %d, want code %d", a, time, got, code, want)
	}
}

// checkDrift checks a drift in both orders of the tracks, of which each sees the other one turn in
// the same sense.
func checkDrift(t *testing.T, m meeting, time, want int64) {
	t.Helper()
	for _, m := range []meeting{m, m.exchanged()} {
		if got, code := impl.BearingDrift(m.a, m.b, time); got != want || code != impl.ErrNone {
			t.Errorf("BearingDrift(%v, %v, %d) = %d, %d, want %d", m.a, m.b, time, got, code, want)
		}
	}
}

// wantedDrift tells from the angles whether b is seen farther to the right a thousandth of a unit of
// time later.
func (m meeting) wantedDrift(time int64) int64 {
	w := from(m.a.Step, m.b.Step)
	now := plus(from(m.a.At, m.b.At), times(time, w))
	if now == point(0, 0) {
		return 0
	}
	return wantedSide(now, plus(times(1000, now), w))
}

// scattered returns a function that gives numbers in -limit..limit without a plain pattern.
func scattered(seed int64) func(limit int64) int64 {
	return func(limit int64) int64 {
		seed = (seed*1103515245 + 12345) % (1 << 31)
		return seed/64%(2*limit+1) - limit
	}
}

// square returns all vectors with coordinates in -n..n.
func square(n int64) []impl.Point {
	var list []impl.Point
	for x := -n; x <= n; x++ {
		for y := -n; y <= n; y++ {
			list = append(list, point(x, y))
		}
	}
	return list
}

// someBearings returns bearings into all quarters, some of one angle, and some at and near the limits.
func someBearings() []impl.Point {
	var list []impl.Point
	coordinates := []int64{-quickest, 1 - quickest, -500, -3, -2, -1, 0, 1, 2, 3, 500, quickest - 1, quickest}
	for _, x := range coordinates {
		for _, y := range coordinates {
			if x != 0 || y != 0 {
				list = append(list, point(x, y))
			}
		}
	}
	return list
}

// notWithin returns vectors of which a coordinate is beyond a limit.
func notWithin(limit int64) []impl.Point {
	var list []impl.Point
	for _, x := range []int64{limit + 1, -limit - 1, 2 * limit, 1 << 32, 1<<32 + 1, -1 << 32, math.MaxInt64, math.MinInt64, math.MinInt64 + 1} {
		list = append(list, point(x, 0), point(0, x), point(1, x), point(x, 1), point(x, x), point(x, -limit), point(limit, x))
	}
	return list
}

func notPoints() []impl.Point {
	return notWithin(edge)
}

func notBearings() []impl.Point {
	return append(notWithin(quickest), point(0, 0), point(edge, edge), point(0, -edge))
}

func notTracks() []impl.Track {
	var list []impl.Track
	for _, p := range notPoints() {
		list = append(list, impl.Track{At: p}, impl.Track{At: p, Step: point(1, -1)}, impl.Track{At: p, Step: point(quickest+1, 0)})
	}
	for _, u := range notWithin(quickest) {
		list = append(list, impl.Track{Step: u}, impl.Track{At: point(edge, -edge), Step: u})
	}
	return list
}

var notTimes = []int64{-1, lastTime + 1, -lastTime, 1 << 32, 1<<32 + 1, math.MaxInt64, math.MinInt64}

func TestConstantsOfBearings(t *testing.T) {
	if impl.MaxPlane != 100000 || impl.MaxBearing != 1000 || impl.MaxTime != 1000 {
		t.Error("limits of chapter 12")
	}
}

func TestValidBearings(t *testing.T) {
	for _, u := range someBearings() {
		if !impl.IsBearing(u) {
			t.Errorf("IsBearing(%v) = false", u)
		}
	}
	for _, u := range notBearings() {
		if impl.IsBearing(u) {
			t.Errorf("IsBearing(%v) = true", u)
		}
	}
	for x := int64(-3); x <= 3; x++ {
		if impl.IsBearing(point(quickest+x, 0)) != (x <= 0) || impl.IsBearing(point(7, x-quickest)) != (x >= 0) || impl.IsBearing(point(x, 0)) != (x != 0) || impl.IsBearing(point(0, x)) != (x != 0) {
			t.Errorf("a bearing with a coordinate %d, or as far beside a limit, is told wrongly", x)
		}
	}
}

func TestSideCases(t *testing.T) {
	north, east, south, west := point(0, 1), point(1, 0), point(0, -1), point(-1, 0)
	for _, c := range []struct {
		p, u, q impl.Point
		want    int64
	}{
		{point(0, 0), north, point(1, 0), 1}, {point(0, 0), north, point(-1, 5), -1}, {point(0, 0), north, point(1, -5), 1}, // also behind
		{point(0, 0), east, point(0, 1), -1}, {point(0, 0), east, point(0, -1), 1}, {point(0, 0), south, point(1, 0), -1}, {point(0, 0), south, point(-1, 0), 1},
		{point(0, 0), west, point(3, 1), 1}, {point(0, 0), west, point(-3, -1), -1},
		// On the line ahead and behind, and its own point.
		{point(3, 4), point(2, 3), point(5, 7), 0}, {point(3, 4), point(2, 3), point(1, 1), 0}, {point(3, 4), point(2, 3), point(3, 4), 0}, {point(3, 4), point(4, 6), point(5, 7), 0},
		{point(0, 0), north, point(0, -3), 0}, {point(0, 0), north, point(0, 3), 0}, {point(-7, 9), west, point(edge, 9), 0}, {point(edge, edge), point(1, 1), point(-edge, -edge), 0},
		// Just beside the line.
		{point(3, 4), point(2, 3), point(6, 8), 1}, {point(3, 4), point(2, 3), point(4, 6), -1}, {point(3, 4), point(-2, -3), point(6, 8), -1},
		{point(-edge, -edge), point(999, quickest), point(edge, edge), 1}, {point(-edge, -edge), point(quickest, 999), point(edge, edge), -1}, {point(edge, edge), point(-quickest, -999), point(-edge, -edge), -1},
		{point(-edge, -edge), point(quickest, quickest), point(edge, edge-1), 1}, {point(-edge, -edge), point(quickest, quickest), point(edge-1, edge), -1},
		{point(-edge, edge), point(quickest, -quickest), point(edge, -edge), 0}, {point(-edge, edge), point(quickest, -quickest), point(edge-1, -edge), 1}, {point(-edge, edge), point(quickest, -quickest), point(edge, 1-edge), -1},
	} {
		checkSide(t, c.p, c.u, c.q, c.want)
	}
}

// TestAllSides compares sides with the angles of the points, and checks that a point on one side is
// on the other one of the opposite bearing.
func TestAllSides(t *testing.T) {
	check := func(p, u, q impl.Point) {
		t.Helper()
		want := wantedSide(u, from(p, q))
		checkSide(t, p, u, q, want)
		checkSide(t, p, times(-1, u), q, -want)
	}
	for _, u := range someBearings() {
		for _, q := range square(3) {
			check(point(0, 0), u, q)
			check(point(-edge, edge), u, plus(point(edge-3, 3-edge), q))
			check(point(1, -2), u, times(edge/3, q))
		}
	}
	next := scattered(1)
	for range 3000 {
		p, u := point(next(edge), next(edge)), point(next(quickest), next(quickest))
		if u == point(0, 0) {
			continue
		}
		check(p, u, point(next(edge), next(edge)))
		if q := plus(p, times(next(100), u)); q.X >= -edge && q.X <= edge && q.Y >= -edge && q.Y <= edge {
			checkSide(t, p, u, q, 0)
		}
	}
}

// TestBearingOrderCases has lists of bearings of one angle each, in ascending order from the north and
// around to just before the north.
func TestBearingOrderCases(t *testing.T) {
	order := [][]impl.Point{
		{point(0, 1), point(0, 2), point(0, quickest)}, {point(1, quickest)}, {point(1, 999)}, {point(1, 2), point(500, quickest)}, {point(999, quickest)}, {point(1, 1), point(quickest, quickest)}, {point(quickest, 999)}, {point(quickest, 1)},
		{point(1, 0), point(quickest, 0)}, {point(quickest, -1)}, {point(1, -1), point(7, -7)}, {point(1, -quickest)},
		{point(0, -1), point(0, -quickest)}, {point(-1, -quickest)}, {point(-1, -1), point(-9, -9)}, {point(-quickest, -1)},
		{point(-1, 0), point(-quickest, 0)}, {point(-quickest, 1)}, {point(-1, 1), point(-quickest, quickest)}, {point(-1, 2)}, {point(-1, 999)}, {point(-1, quickest)},
	}
	for i, us := range order {
		for k, vs := range order {
			want := int64(0)
			if i < k {
				want = -1
			} else if i > k {
				want = 1
			}
			for _, u := range us {
				for _, v := range vs {
					checkOrder(t, u, v, want)
				}
			}
		}
	}
}

func TestAllBearingOrders(t *testing.T) {
	list := someBearings()
	next := scattered(2)
	for len(list) < 250 {
		list = append(list, point(next(quickest-1)|1, next(quickest)))
	}
	for _, u := range list {
		if got, code := impl.CompareBearings(u, times(-1, u)); code != impl.ErrNone || got == 0 {
			t.Errorf("CompareBearings of %v and its opposite = %d, %d", u, got, code)
		}
		for _, v := range list {
			checkOrder(t, u, v, int64(angleOf(u).Cmp(angleOf(v))))
		}
	}
}

func TestFixCases(t *testing.T) {
	origin := point(0, 0)
	for _, c := range []struct {
		s, other sight
		x, y     impl.Ratio
	}{
		{sight{origin, point(1, 1)}, sight{point(3, 0), point(0, 1)}, ratio(3, 1), ratio(3, 1)},
		{sight{origin, point(7, 7)}, sight{point(3, 0), point(0, quickest)}, ratio(3, 1), ratio(3, 1)}, // lengths do not count
		{sight{origin, point(2, 1)}, sight{point(1, 0), point(-1, 3)}, ratio(6, 7), ratio(3, 7)},
		{sight{origin, point(-2, -1)}, sight{point(-1, 0), point(1, -3)}, ratio(-6, 7), ratio(-3, 7)},
		{sight{origin, point(-2, 1)}, sight{point(-1, 0), point(1, 3)}, ratio(-6, 7), ratio(3, 7)},
		{sight{point(5, 5), point(-1, 0)}, sight{point(-2, -9), point(0, 1)}, ratio(-2, 1), ratio(5, 1)},
		{sight{point(-4, 1), point(1, 3)}, sight{point(4, 1), point(-1, 3)}, ratio(0, 1), ratio(13, 1)},
		{sight{point(-1, 1), point(2, 1)}, sight{point(0, 1), point(0, 1)}, ratio(0, 1), ratio(3, 2)},
		{sight{point(1, 1), point(4, 2)}, sight{point(2, 5), point(0, -3)}, ratio(2, 1), ratio(3, 2)}, // 12/6 and 9/6 in lowest terms
		// Fixes that are one of the observers, and both of them.
		{sight{origin, point(1, 0)}, sight{point(0, -5), point(0, 1)}, ratio(0, 1), ratio(0, 1)},
		{sight{point(7, -3), point(1, 0)}, sight{point(7, 3), point(0, -1)}, ratio(7, 1), ratio(-3, 1)},
		{sight{point(2, 2), point(3, 3)}, sight{point(8, 8), point(1, 2)}, ratio(8, 1), ratio(8, 1)},
		{sight{point(7, -3), point(1, 2)}, sight{point(7, -3), point(2, 1)}, ratio(7, 1), ratio(-3, 1)},
		{sight{point(edge, -edge), point(-1, 2)}, sight{point(edge, -edge), point(-quickest, -quickest)}, ratio(edge, 1), ratio(-edge, 1)},
		// Far away, outside of the points.
		{sight{point(-edge, 0), point(quickest, 999)}, sight{point(edge, 0), point(0, 1)}, ratio(edge, 1), ratio(199800, 1)},
		{sight{point(-edge, 0), point(1, quickest)}, sight{point(edge, 0), point(0, 7)}, ratio(edge, 1), ratio(200000000, 1)},
	} {
		checkFix(t, c.s, c.other, c.x, c.y)
	}
}

func TestNoFixCases(t *testing.T) {
	origin, north, east := point(0, 0), point(0, 1), point(1, 0)
	for _, c := range []struct {
		s, other sight
		want     int64
	}{
		// Parallel and opposite bearings, also on one line and from one point.
		{sight{origin, east}, sight{north, east}, impl.ErrState}, {sight{origin, east}, sight{north, point(-2, 0)}, impl.ErrState}, {sight{origin, point(2, 3)}, sight{point(5, 5), point(-4, -6)}, impl.ErrState},
		{sight{origin, east}, sight{point(5, 0), east}, impl.ErrState}, {sight{origin, east}, sight{point(5, 0), point(-1, 0)}, impl.ErrState}, {sight{origin, point(-1, 0)}, sight{point(5, 0), east}, impl.ErrState},
		{sight{north, north}, sight{north, north}, impl.ErrState}, {sight{north, north}, sight{north, point(0, -7)}, impl.ErrState}, {sight{point(edge, -edge), point(1, -1)}, sight{point(-edge, edge), point(quickest, -quickest)}, impl.ErrState},
		// Behind the first one, behind the other one, and behind both.
		{sight{origin, east}, sight{point(-1, -1), north}, impl.ErrNotFound}, {sight{origin, east}, sight{point(1, 1), north}, impl.ErrNotFound}, {sight{origin, east}, sight{point(-1, 1), north}, impl.ErrNotFound},
		{sight{origin, point(-1, -1)}, sight{point(3, 0), north}, impl.ErrNotFound}, {sight{origin, point(1, 1)}, sight{point(3, 0), point(0, -1)}, impl.ErrNotFound}, {sight{origin, point(-1, -1)}, sight{point(3, 0), point(0, -1)}, impl.ErrNotFound},
		// One of the observers is on the line of the other one, but behind.
		{sight{origin, east}, sight{point(-5, 0), north}, impl.ErrNotFound}, {sight{origin, point(-1, -1)}, sight{point(4, 4), east}, impl.ErrNotFound},
		// Behind, where the ratios would not be valid either.
		{sight{point(-75593, 0), point(-960, 59)}, sight{point(-74716, -74861), point(-997, -923)}, impl.ErrNotFound}, {sight{point(56947, -31889), point(913, -580)}, sight{point(56889, -48216), point(-334, 289)}, impl.ErrNotFound},
	} {
		checkNoFix(t, c.s, c.other, c.want)
		if got := checkAnyFix(t, c.s, c.other); got != c.want {
			t.Errorf("%v and %v should have code %d, not %d", c.s, c.other, c.want, got)
		}
	}
}

// TestFixLimits has fixes with a numerator at its limits and one beyond. Exchanged coordinates are
// checked as well, so that each of both ratios is beyond alone.
func TestFixLimits(t *testing.T) {
	for _, c := range []struct {
		s, other sight
		x, y     impl.Ratio
	}{
		{sight{point(-81280, 5983), point(960, -59)}, sight{point(-82160, -76119), point(997, 923)}, ratio(term, 944903), ratio(871790863, 944903)},
		{sight{point(50183, -40668), point(-913, 580)}, sight{point(49652, -55030), point(-334, 289)}, ratio(-term, 70137), ratio(18881344, 70137)},
		{sight{point(0, 0), point(quickest, 999)}, sight{point(1000, 0), point(999, quickest)}, ratio(term, 1999), ratio(999000000, 1999)},
		{sight{point(0, 0), point(-quickest, -999)}, sight{point(-1000, 0), point(-999, -quickest)}, ratio(-term, 1999), ratio(-999000000, 1999)},
		{sight{point(0, 0), point(quickest, 999)}, sight{point(1000, 2000), point(999, 998)}, ratio(term, 1), ratio(999000000, 1)},
		{sight{point(0, 0), point(-quickest, 999)}, sight{point(-1000, 2000), point(-999, 998)}, ratio(-term, 1), ratio(999000000, 1)},
		// The greatest numbers, but with common divisors.
		{sight{point(-edge, edge), point(quickest, -quickest)}, sight{point(edge, edge), point(-quickest, -quickest)}, ratio(0, 1), ratio(0, 1)},
		{sight{point(edge, edge), point(quickest, quickest)}, sight{point(edge, -edge), point(0, quickest)}, ratio(edge, 1), ratio(edge, 1)},
	} {
		checkFix(t, c.s, c.other, c.x, c.y)
	}
	for _, c := range [][2]sight{
		{{point(27737, 0), point(955, -279)}, {point(27765, 883), point(128, -71)}},                 // X is 1000000001/32093
		{{point(56947, -31889), point(-913, 580)}, {point(56889, -48216), point(-334, 289)}},        // X is -1000000001/70137
		{{point(-75593, 0), point(960, -59)}, {point(-74716, -74861), point(997, 923)}},             // X is 1000000001/944903, and Y beyond
		{{point(-81280, 0), point(960, -59)}, {point(-81163, -81179), point(997, 923)}},             // X is 1000000000/944903, and Y beyond
		{{point(1, 0), point(quickest, 999)}, {point(1001, 2000), point(999, 998)}},                 // X is 1000000001/1
		{{point(-1, 0), point(-quickest, 999)}, {point(-1001, 2000), point(-999, 998)}},             // X is -1000000001/1
		{{point(-edge, 0), point(1, 999)}, {point(edge, 0), point(1, quickest)}},                    // X is 199900000/1, and Y far beyond
		{{point(-edge, -edge), point(quickest, 999)}, {point(edge, -edge), point(999, quickest)}},   // both far beyond
		{{point(edge, edge), point(-quickest, -999)}, {point(-edge, edge), point(-999, -quickest)}}, // the same to the other side
	} {
		checkNoFix(t, c[0], c[1], impl.ErrLimit)
	}
}

// TestAllFixes checks the promise that a fix lies on both lines.
func TestAllFixes(t *testing.T) {
	count := map[int64]int{}
	bearings := square(2)
	for _, r := range square(2) {
		for _, u := range bearings {
			for _, v := range bearings {
				if u != point(0, 0) && v != point(0, 0) {
					count[checkAnyFix(t, sight{point(3, -1), u}, sight{point(3+r.X, r.Y-1), v})]++
				}
			}
		}
	}
	for _, code := range []int64{impl.ErrNone, impl.ErrState, impl.ErrNotFound} {
		if count[code] < 1000 {
			t.Errorf("%d small fixes have the code %d", count[code], code)
		}
	}
	next := scattered(3)
	count = map[int64]int{}
	for i := range int64(4000) {
		// Many of the lines cross at a great angle, some at a small one, and some start near each other.
		s := sight{point(next(edge), next(edge)), point(next(quickest-1)|1, next(quickest))}
		other := sight{point(next(edge), next(edge)), point(next(quickest-1)|1, next(quickest))}
		if i%3 == 0 {
			other.bearing = point(s.bearing.X, s.bearing.Y/(1+i%2)+1)
			other.bearing.Y = min(other.bearing.Y, quickest)
		}
		if i%4 == 0 {
			other.from = point(s.from.X*9/10, s.from.Y*9/10)
		}
		count[checkAnyFix(t, s, other)]++
	}
	for _, code := range []int64{impl.ErrNone, impl.ErrLimit, impl.ErrNotFound} {
		if count[code] < 100 {
			t.Errorf("%d great fixes have the code %d", count[code], code)
		}
	}
}

func TestPositionCases(t *testing.T) {
	for _, c := range []struct {
		a    impl.Track
		time int64
		want impl.Point
	}{
		{track(10, 6, -1, -1), 3, point(7, 3)}, {track(10, 6, -1, -1), 0, point(10, 6)}, {track(0, 0, 0, 0), lastTime, point(0, 0)}, {track(5, -7, 0, 0), 1, point(5, -7)},
		{track(10, 6, 3, -2), lastTime, point(3010, -1994)}, {track(-4, 9, 0, 5), 2, point(-4, 19)}, {track(-4, 9, 5, 0), 2, point(6, 9)},
		// The limits of points, steps and times.
		{track(edge, -edge, quickest, -quickest), 0, point(edge, -edge)}, {track(-edge, edge, quickest, -quickest), 200, point(edge, -edge)}, {track(edge, edge, -quickest, -quickest), 200, point(-edge, -edge)},
		{track(0, 0, 100, -100), lastTime, point(edge, -edge)}, {track(0, 0, -100, 100), lastTime, point(-edge, edge)}, {track(-edge, 0, 200, 0), lastTime, point(edge, 0)}, {track(edge-999, 0, 1, 0), 999, point(edge, 0)},
		{track(edge-1, 1-edge, 1, -1), 1, point(edge, -edge)}, {track(1-edge, edge-1, -1, 1), 1, point(-edge, edge)},
	} {
		checkPosition(t, c.a, c.time, c.want)
	}
	for _, c := range []struct {
		a    impl.Track
		time int64
	}{
		{track(edge, 0, 1, 0), 1}, {track(-edge, 0, -1, 0), 1}, {track(0, edge, 0, 1), 1}, {track(0, -edge, 0, -1), 1}, {track(edge-999, 0, 1, 0), lastTime}, {track(0, 999-edge, 0, -1), lastTime},
		{track(1, 0, 100, 0), lastTime}, {track(0, -1, 0, -100), lastTime}, {track(-edge, edge, quickest, -quickest), 201}, {track(edge, 5, -quickest, 0), 201}, {track(0, 0, 1, -101), lastTime}, {track(0, 0, 101, 1), lastTime},
		{track(edge, edge, quickest, quickest), lastTime}, {track(-edge, -edge, -quickest, -quickest), lastTime},
	} {
		checkNoPosition(t, c.a, c.time, impl.ErrLimit)
	}
}

func TestAllPositions(t *testing.T) {
	next := scattered(4)
	for i := range int64(5000) {
		a := track(next(edge), next(edge), next(quickest), next(quickest))
		if i%2 == 0 {
			a.Step = point(a.Step.X/10, a.Step.Y/10)
		}
		time := (next(lastTime) + lastTime) / 2
		x, y := big.NewInt(a.Step.X), big.NewInt(a.Step.Y)
		x.Add(x.Mul(x, big.NewInt(time)), big.NewInt(a.At.X))
		y.Add(y.Mul(y, big.NewInt(time)), big.NewInt(a.At.Y))
		if limit := big.NewInt(edge); x.CmpAbs(limit) > 0 || y.CmpAbs(limit) > 0 {
			checkNoPosition(t, a, time, impl.ErrLimit)
			continue
		}
		checkPosition(t, a, time, point(x.Int64(), y.Int64()))
	}
}

func TestMeetingCases(t *testing.T) {
	still := track(0, 0, 0, 0)
	for _, c := range []struct {
		a, b         impl.Track
		time, square impl.Ratio
	}{
		{track(0, 0, 1, 0), track(10, 6, -1, -1), ratio(26, 5), ratio(4, 5)},
		// Closest at the time 0: moving apart, or neither apart nor nearer.
		{still, track(3, 4, 1, 0), ratio(0, 1), ratio(25, 1)}, {still, track(3, 4, 3, 4), ratio(0, 1), ratio(25, 1)}, {track(0, 0, -1, -1), track(3, 4, 1, 1), ratio(0, 1), ratio(25, 1)},
		{still, track(3, 4, -4, 3), ratio(0, 1), ratio(25, 1)}, {still, track(0, 7, 5, 0), ratio(0, 1), ratio(49, 1)}, {still, track(-3, 4, quickest, quickest), ratio(0, 1), ratio(25, 1)},
		// Closest at a whole time, and between two whole times.
		{still, track(-5, 3, 1, 0), ratio(5, 1), ratio(9, 1)}, {track(2, 2, 0, 1), track(-8, 5, 2, 1), ratio(5, 1), ratio(9, 1)}, {still, track(7, -6, 0, 1), ratio(6, 1), ratio(49, 1)},
		{still, track(-5, 3, 2, 0), ratio(5, 2), ratio(9, 1)}, {still, track(-1, 3, 3, 0), ratio(1, 3), ratio(9, 1)}, {still, track(-5, 0, 1, 1), ratio(5, 2), ratio(25, 2)}, {still, track(-5, 0, 2, 1), ratio(2, 1), ratio(5, 1)}, {still, track(1, -4, 2, 3), ratio(10, 13), ratio(121, 13)},
		// Meeting at the time 0, at a whole time, and between two whole times.
		{still, track(0, 0, 1, -1), ratio(0, 1), ratio(0, 1)}, {track(5, 6, 7, 8), track(5, 6, 8, 7), ratio(0, 1), ratio(0, 1)}, {track(edge, -edge, -quickest, quickest), track(edge, -edge, quickest, -quickest), ratio(0, 1), ratio(0, 1)},
		{still, track(-6, 9, 2, -3), ratio(3, 1), ratio(0, 1)}, {track(1, 1, 1, 1), track(11, -9, 0, 2), ratio(10, 1), ratio(0, 1)}, {track(0, 0, 1, 0), track(0, 4, 1, -1), ratio(4, 1), ratio(0, 1)},
		{track(0, 0, 1, 0), track(5, 0, -1, 0), ratio(5, 2), ratio(0, 1)}, {still, track(-2, 3, 4, -6), ratio(1, 2), ratio(0, 1)}, {still, track(14, -21, -6, 9), ratio(7, 3), ratio(0, 1)}, {still, track(0, 1, 0, -quickest), ratio(1, quickest), ratio(0, 1)},
		// After the last time of a position, and outside of the points.
		{track(0, 0, 0, 1), track(2000, 0, -1, 1), ratio(2000, 1), ratio(0, 1)}, {track(-edge, 0, quickest, 0), track(edge, 0, 999, 0), ratio(200000, 1), ratio(0, 1)}, {track(-edge, 0, 0, 0), track(edge, 1, -1, 0), ratio(200000, 1), ratio(1, 1)},
		// Tracks that have met before the time 0.
		{still, track(6, -9, 2, -3), ratio(0, 1), ratio(117, 1)}, {track(0, 0, -1, 0), track(5, 0, 1, 0), ratio(0, 1), ratio(25, 1)}, {still, track(1, -1, 1, -1), ratio(0, 1), ratio(2, 1)}, {track(-1, 0, 0, 0), track(0, 0, quickest, 0), ratio(0, 1), ratio(1, 1)},
		// On one line for the first time beside the place of the other one.
		{still, track(-6, 8, 2, -3), ratio(36, 13), ratio(4, 13)}, {still, track(-quickest, 999, 999, -998), ratio(1996002, 1994005), ratio(1, 1994005)},
	} {
		checkMeeting(t, meeting{c.a, c.b}, c.time, c.square)
	}
}

// TestTracksWithOneStep has tracks whose distance is always the same.
func TestTracksWithOneStep(t *testing.T) {
	for _, c := range []struct {
		r      impl.Point
		square int64
	}{
		{point(0, 0), 0}, {point(1, 0), 1}, {point(0, -1), 1}, {point(3, 4), 25}, {point(-5, -12), 169}, {point(10000, 30000), term}, {point(-30000, 10000), term}, {point(0, 31622), 999950884},
	} {
		for _, a := range []impl.Track{track(0, 0, 0, 0), track(0, 0, 3, -4), track(-7, 9, quickest, quickest), track(50000, -40000, -quickest, 0)} {
			m := seenFrom(a, c.r, point(0, 0))
			checkNoTime(t, m, impl.ErrState)
			checkSquare(t, m, ratio(c.square, 1))
		}
	}
}

// TestSquareLimits has squares with a numerator at its limit and beyond, which is no hindrance to the
// time, nor to tell that the tracks do not meet.
func TestSquareLimits(t *testing.T) {
	still := track(0, 0, 0, 0)
	for _, c := range []struct {
		b            impl.Track
		time, square impl.Ratio
	}{
		{track(10000, 30000, 1, 0), ratio(0, 1), ratio(term, 1)}, {track(10000, 30000, -3, 1), ratio(0, 1), ratio(term, 1)},
		{track(2, -33326, 3, 11), ratio(36658, 13), ratio(term, 13)}, // 10000000000/130
		{track(0, -31622, 1, 2), ratio(63244, 5), ratio(999950884, 5)},
		{track(-edge, 31622, quickest, 0), ratio(100, 1), ratio(999950884, 1)},
	} {
		checkMeeting(t, meeting{still, c.b}, c.time, c.square)
	}
	for _, c := range []struct {
		m    meeting
		time impl.Ratio
	}{
		{meeting{still, track(13390, 28648, 1, 0)}, ratio(0, 1)}, // 1000000004
		{meeting{still, track(0, -31623, 1, 2)}, ratio(63246, 5)},
		{meeting{still, track(-edge, 31623, quickest, 0)}, ratio(100, 1)},
		{meeting{still, track(edge, edge, 1, 1)}, ratio(0, 1)},
		// The greatest cross products, whose squares are 639996800004000000 and 640000000000000000.
		{meeting{track(-edge, -edge, quickest, -quickest), track(edge, edge-1, -quickest, quickest)}, ratio(1, 4000)},
		{meeting{track(-edge, -edge, quickest, -quickest), track(edge, edge, -quickest, quickest)}, ratio(0, 1)},
		{meeting{track(edge, -edge, -quickest, 1-quickest), track(-edge, edge, quickest, quickest)}, ratio(200000, 7996001)},
	} {
		checkNoSquare(t, c.m, impl.ErrLimit)
		checkMeets(t, c.m, false)
		for _, m := range []meeting{c.m, c.m.exchanged()} {
			got, code := impl.ClosestTime(m.a, m.b)
			checkRatio(t, "ClosestTime", got, code, c.time)
		}
	}
	apart := meeting{track(-edge, -edge, 5, 5), track(edge, edge, 5, 5)}
	checkNoTime(t, apart, impl.ErrState)
	checkNoSquare(t, apart, impl.ErrLimit)
	checkMeets(t, apart, false)
}

// TestAllMeetings checks the promise that tracks meet exactly if their least distance is 0, and that
// they are never closer than told.
func TestAllMeetings(t *testing.T) {
	for _, a := range []impl.Track{track(0, 0, 0, 0), track(5, -3, 2, 1), track(edge-4, 4-edge, 3-quickest, quickest-3)} {
		for _, r := range square(3) {
			for _, w := range square(2) {
				checkAnyMeeting(t, seenFrom(a, r, w))
			}
		}
	}
	next := scattered(5)
	for i := range 2000 {
		m := meeting{track(next(edge), next(edge), next(quickest), next(quickest)), track(next(edge), next(edge), next(quickest), next(quickest))}
		if i%2 == 0 {
			m.b.At = point(m.a.At.X*99/100, m.a.At.Y*98/100)
		}
		checkAnyMeeting(t, m)
	}
}

// TestTracksOnOneLine has tracks that have to meet, that have met before, and that only just do not
// meet, for times that are whole numbers and fractions.
func TestTracksOnOneLine(t *testing.T) {
	next := scattered(6)
	for range 1500 {
		a, u := track(next(edge/2), next(edge/2), next(quickest/2), next(quickest/2)), point(next(50), next(50))
		late, often := 1+(next(500)+500)/2, 1+(next(8)+8)/2
		if u == point(0, 0) {
			continue
		}
		meets := seenFrom(a, times(-late, u), times(often, u))
		checkAnyMeeting(t, meets)
		checkMeets(t, meets, true)
		got, code := impl.ClosestTime(meets.a, meets.b)
		checkExact(t, "ClosestTime of tracks that meet", got, code, big.NewRat(late, often))
		checkMeets(t, seenFrom(a, times(late, u), times(often, u)), false)
		checkMeets(t, seenFrom(a, times(-late, u), point(0, 0)), false)
		for _, aside := range []impl.Point{point(1, 0), point(0, 1), point(-1, 0), point(0, -1)} {
			beside := seenFrom(a, plus(aside, times(-late, u)), times(often, u))
			checkAnyMeeting(t, beside)
			checkMeets(t, beside, wantedSide(u, aside) == 0)
		}
	}
}

func TestDriftCases(t *testing.T) {
	still := track(0, 0, 0, 0)
	for _, c := range []struct {
		m    meeting
		want int64
	}{
		{meeting{track(0, 0, 1, 0), track(10, 6, -1, -1)}, -1},
		{meeting{still, track(0, 5, 1, 0)}, 1}, {meeting{still, track(0, 5, -1, 0)}, -1}, {meeting{still, track(5, 0, 0, -1)}, 1}, {meeting{still, track(5, 0, 0, 1)}, -1}, {meeting{still, track(0, -5, -1, 0)}, 1}, {meeting{still, track(-5, 0, 0, 1)}, 1},
		{meeting{track(0, 0, 1, 0), track(0, 5, 0, 0)}, -1}, {meeting{track(3, 3, 2, 2), track(3, 8, 3, 2)}, 1}, {meeting{track(-edge, -edge, -quickest, quickest), track(edge, edge, quickest, -quickest)}, 1}, {meeting{track(-edge, -edge, quickest, -quickest), track(edge, edge, -quickest, quickest)}, -1},
		// No drift: the same step, one place, and on one line, also when they have passed each other.
		{meeting{still, track(3, 4, 0, 0)}, 0}, {meeting{track(1, 2, 9, 9), track(3, 4, 9, 9)}, 0}, {meeting{still, still}, 0}, {meeting{still, track(0, 0, 4, -5)}, 0}, {meeting{still, track(4, -6, 2, -3)}, 0}, {meeting{still, track(4, -6, -2, 3)}, 0}, {meeting{track(7, 7, 1, 1), track(-7, 7, 3, 1)}, 0},
		{meeting{track(-edge, -edge, quickest, quickest), track(edge, edge, -quickest, -quickest)}, 0}, {meeting{track(-edge, -edge, quickest, quickest), track(edge, edge, -quickest, 1-quickest)}, -1}, {meeting{track(-edge, -edge, quickest, quickest), track(edge, edge, 1-quickest, -quickest)}, 1},
	} {
		for _, time := range []int64{0, 1, 2, 3, 500, lastTime} {
			checkDrift(t, c.m, time, c.want)
		}
	}
}

// TestAllDrifts compares drifts with the angles under which a track is seen.
func TestAllDrifts(t *testing.T) {
	for _, r := range square(3) {
		for _, w := range square(2) {
			m := seenFrom(track(4, -9, 7, 1), r, w)
			for _, time := range []int64{0, 1, 2, 3, lastTime} {
				checkDrift(t, m, time, m.wantedDrift(time))
			}
		}
	}
	next := scattered(7)
	for range 2000 {
		m := meeting{track(next(edge), next(edge), next(quickest), next(quickest)), track(next(edge), next(edge), next(quickest), next(quickest))}
		for _, time := range []int64{0, (next(lastTime) + lastTime) / 2, lastTime} {
			checkDrift(t, m, time, m.wantedDrift(time))
		}
	}
}

func TestInvalidBearings(t *testing.T) {
	good, other := point(1, 2), point(-3, 1)
	check := func(p, u, q, v impl.Point) {
		t.Helper()
		checkNoFix(t, sight{p, u}, sight{q, v}, impl.ErrInvalid)
	}
	side := func(p, u, q impl.Point) {
		t.Helper()
		got, code := impl.SideOf(p, u, q)
		checkNoNumber(t, "SideOf", got, code, impl.ErrInvalid)
	}
	for _, p := range notPoints() {
		side(p, good, other)
		side(other, good, p)
		side(p, good, p)
		side(p, point(0, 0), other)
		check(p, good, other, other)
		check(p, good, p, other)
		check(p, good, other, good) // what is not valid comes before parallel lines
		check(p, good, p, times(-1, good))
	}
	for _, u := range notBearings() {
		side(good, u, other)
		side(good, u, good)
		check(good, u, other, other)
		check(good, u, other, u)
		check(good, u, good, good)
		for _, pair := range [][2]impl.Point{{u, good}, {good, u}, {u, u}} {
			got, code := impl.CompareBearings(pair[0], pair[1])
			checkNoNumber(t, "CompareBearings", got, code, impl.ErrInvalid)
		}
	}
	// Each point may have the limits that a bearing may not.
	checkSide(t, point(edge, edge), point(quickest, 0), point(-edge, -edge), 1)
	checkFix(t, sight{point(edge, -edge), point(0, quickest)}, sight{point(-edge, edge), point(quickest, 0)}, ratio(edge, 1), ratio(edge, 1))
}

// TestTrackErrors has the errors of functions of tracks in their order: what is not valid comes
// before times that are out of range, and these before positions that are no points.
func TestTrackErrors(t *testing.T) {
	good := track(3, -4, 1, 2)
	checkDriftCode := func(m meeting, time, want int64) {
		t.Helper()
		got, code := impl.BearingDrift(m.a, m.b, time)
		checkNoNumber(t, "BearingDrift", got, code, want)
	}
	for _, bad := range notTracks() {
		for _, time := range append(notTimes, 0, 1, lastTime) {
			checkNoPosition(t, bad, time, impl.ErrInvalid)
			for _, m := range []meeting{{bad, good}, {good, bad}, {bad, bad}} {
				checkDriftCode(m, time, impl.ErrInvalid)
			}
		}
		for _, m := range []meeting{{bad, good}, {bad, bad}} { // two that are the same have the same step
			checkNoTime(t, m, impl.ErrInvalid)
			checkNoSquare(t, m, impl.ErrInvalid)
			for _, m := range []meeting{m, m.exchanged()} {
				got, code := impl.DoMeet(m.a, m.b)
				checkNoBool(t, "DoMeet", got, code, impl.ErrInvalid)
			}
		}
	}
	for _, time := range notTimes {
		for _, a := range []impl.Track{good, track(0, 0, 0, 0), track(edge, edge, quickest, quickest), track(-edge, edge, quickest, -quickest)} {
			checkNoPosition(t, a, time, impl.ErrRange)
			checkDriftCode(meeting{a, good}, time, impl.ErrRange)
			checkDriftCode(meeting{good, a}, time, impl.ErrRange)
			checkDriftCode(meeting{a, a}, time, impl.ErrRange)
		}
	}
	// A drift has no error where the tracks have left the points.
	checkDrift(t, meeting{track(edge, 0, quickest, 0), track(0, edge, 0, quickest)}, lastTime, 0)
	checkDrift(t, meeting{track(edge, edge, quickest, quickest), track(edge, edge-1, 999, quickest)}, lastTime, 1)
}

// TestTracksStayWhereTheyAre checks that a call moves no track for the next one.
func TestTracksStayWhereTheyAre(t *testing.T) {
	a, b := track(0, 0, 1, 0), track(10, 6, -1, -1)
	for range 3 {
		checkPosition(t, b, 3, point(7, 3))
		checkDrift(t, meeting{a, b}, 9, -1)
		checkMeeting(t, meeting{a, b}, ratio(26, 5), ratio(4, 5))
	}
	if a != track(0, 0, 1, 0) || b != track(10, 6, -1, -1) {
		t.Errorf("the tracks are now %v and %v", a, b)
	}
}
