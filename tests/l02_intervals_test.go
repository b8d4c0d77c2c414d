package tests

import (
	"math"
	"slices"
	"testing"

	"loop.example/g00915/impl"
)

const (
	top          = impl.MaxValue
	factorTop    = 1000000
	smallestTest = -3
	greatestTest = 3
)

// invalidIntervals are those whose bounds are in the wrong order or beyond the values.
var invalidIntervals = []impl.Interval{
	{Low: 1, High: 0},
	{Low: 0, High: -1},
	{Low: top, High: -top},
	{Low: -top - 1, High: 0},
	{Low: 0, High: top + 1},
	{Low: top + 1, High: top + 1},
	{Low: -top - 1, High: -top - 1},
	{Low: math.MinInt64, High: math.MaxInt64},
	{Low: math.MaxInt64, High: math.MinInt64},
	{Low: math.MinInt64, High: math.MinInt64},
	{Low: math.MaxInt64, High: math.MaxInt64},
}

// span is short for the interval from low to high.
func span(low, high int64) impl.Interval {
	return impl.Interval{Low: low, High: high}
}

// smallIntervals returns all intervals with bounds near 0: of width 0, of either sign, and with 0
// inside or as a bound.
func smallIntervals() []impl.Interval {
	var list []impl.Interval
	for low := int64(smallestTest); low <= greatestTest; low++ {
		for high := low; high <= greatestTest; high++ {
			list = append(list, span(low, high))
		}
	}
	return list
}

// quarters returns numbers of a, its bounds and fractions in between, each times 4.
func quarters(a impl.Interval) []int64 {
	var list []int64
	for n := 4 * a.Low; n <= 4*a.High; n++ {
		list = append(list, n)
	}
	return list
}

func checkInterval(t *testing.T, what string, got impl.Interval, code int64, want impl.Interval) {
	t.Helper()
	if got != want || code != impl.ErrNone {
		t.Errorf("%s = %v, %d, want %v", what, got, code, want)
	}
}

func checkNoInterval(t *testing.T, what string, got impl.Interval, code, want int64) {
	t.Helper()
	if got != (impl.Interval{}) || code != want {
		t.Errorf("%s = %v, %d, want no interval and code %d", what, got, code, want)
	}
}

func TestValidIntervals(t *testing.T) {
	valid := append(smallIntervals(), span(-top, top), span(top, top), span(-top, -top), span(-top, 0), span(0, top))
	for _, a := range valid {
		if !impl.IsInterval(a) {
			t.Errorf("IsInterval(%v) = false", a)
		}
	}
	for _, a := range invalidIntervals {
		if impl.IsInterval(a) {
			t.Errorf("IsInterval(%v) = true", a)
		}
	}
}

func TestIntervalHasNumbers(t *testing.T) {
	for _, c := range []struct {
		a    impl.Interval
		x    int64
		want bool
	}{
		{span(1, 4), 0, false}, {span(1, 4), 1, true}, {span(1, 4), 3, true}, {span(1, 4), 4, true}, {span(1, 4), 5, false},
		{span(-4, -1), -5, false}, {span(-4, -1), -4, true}, {span(-4, -1), -1, true}, {span(-4, -1), 0, false}, {span(-4, -1), 2, false},
		{span(-1, 1), 0, true}, {span(0, 0), 0, true}, {span(0, 0), 1, false}, {span(7, 7), 7, true}, {span(7, 7), 6, false},
		{span(-top, top), top, true}, {span(-top, top), -top, true}, {span(-top, top), top + 1, false}, {span(-top, top), -top - 1, false},
		{span(-top, top), math.MaxInt64, false}, {span(-top, top), math.MinInt64, false},
		{span(-top, top+1), 0, false}, // contains 0, but is not valid
		{span(-top-1, top), 0, false},
	} {
		if got := impl.HasNumber(c.a, c.x); got != c.want {
			t.Errorf("HasNumber(%v, %d) = %v", c.a, c.x, got)
		}
	}
	for _, a := range invalidIntervals {
		for _, x := range []int64{a.Low, a.High, 0} {
			if impl.HasNumber(a, x) {
				t.Errorf("HasNumber(%v, %d) = true", a, x)
			}
		}
	}
}

func TestSumsOfIntervals(t *testing.T) {
	full := slices.Repeat([]impl.Interval{span(-2, 3)}, impl.MaxList)
	// Sums on the way may leave the values, and come back.
	far := append(slices.Repeat([]impl.Interval{span(top, top)}, impl.MaxList/2), slices.Repeat([]impl.Interval{span(-top, -top)}, impl.MaxList/2)...)
	for _, c := range []struct {
		list []impl.Interval
		want impl.Interval
	}{
		{nil, span(0, 0)},
		{[]impl.Interval{}, span(0, 0)},
		{[]impl.Interval{span(-7, -2)}, span(-7, -2)},
		{[]impl.Interval{span(5, 5)}, span(5, 5)},
		{[]impl.Interval{span(1, 2), span(-5, 0)}, span(-4, 2)},
		{[]impl.Interval{span(1, 2), span(3, 5), span(-10, 20)}, span(-6, 27)},
		{[]impl.Interval{span(-top, top), span(0, 0)}, span(-top, top)},
		{[]impl.Interval{span(1-top, top-1), span(-1, 1)}, span(-top, top)},
		{[]impl.Interval{span(0, top), span(0, 1), span(-2, -1)}, span(-2, top)},
		{full, span(-400, 600)},
		{far, span(0, 0)},
	} {
		before := slices.Clone(c.list)
		got, code := impl.SumIntervals(c.list)
		checkInterval(t, "SumIntervals", got, code, c.want)
		if !slices.Equal(before, c.list) {
			t.Errorf("SumIntervals changed %v to %v", before, c.list)
		}
	}
}

func TestSumContainsSums(t *testing.T) {
	for _, a := range smallIntervals() {
		for _, b := range smallIntervals() {
			got, code := impl.SumIntervals([]impl.Interval{a, b})
			least, greatest := int64(math.MaxInt64), int64(math.MinInt64)
			for _, i := range quarters(a) {
				for _, j := range quarters(b) {
					least, greatest = min(least, i+j), max(greatest, i+j)
				}
			}
			if got.Low*4 != least || got.High*4 != greatest || code != impl.ErrNone {
				t.Errorf("SumIntervals(%v, %v) = %v, %d", a, b, got, code)
			}
		}
	}
}

func TestSumErrors(t *testing.T) {
	for _, list := range [][]impl.Interval{
		{span(0, top), span(0, 1)},
		{span(-top, 0), span(-1, 0)},
		{span(top, top), span(1, 1)},
		{span(-top, top), span(-1, 1)},
		slices.Repeat([]impl.Interval{span(top, top)}, impl.MaxList),
		slices.Repeat([]impl.Interval{span(-top, -top)}, impl.MaxList),
	} {
		got, code := impl.SumIntervals(list)
		checkNoInterval(t, "SumIntervals", got, code, impl.ErrRange)
	}
}

// TestErrorsOfIntervalLists checks the errors that SumIntervals and EncloseAll have in common.
func TestErrorsOfIntervalLists(t *testing.T) {
	check := func(list []impl.Interval, want int64) {
		t.Helper()
		got, code := impl.SumIntervals(list)
		checkNoInterval(t, "SumIntervals", got, code, want)
		got, code = impl.EncloseAll(list)
		checkNoInterval(t, "EncloseAll", got, code, want)
	}
	long := make([]impl.Interval, impl.MaxList+1)
	check(long, impl.ErrLimit)
	for _, a := range invalidIntervals {
		check([]impl.Interval{a}, impl.ErrInvalid)
		check([]impl.Interval{span(1, 2), a}, impl.ErrInvalid)
		check([]impl.Interval{a, span(1, 2), span(3, 4)}, impl.ErrInvalid)
		// Validity is checked before the sum of the bounds, even where the sum leaves the values earlier.
		check([]impl.Interval{span(top, top), span(top, top), a}, impl.ErrInvalid)
		// The length is checked before the elements.
		check(append(slices.Clone(long), a), impl.ErrLimit)
		check(append([]impl.Interval{a}, long...), impl.ErrLimit)
		full := slices.Clone(long[:impl.MaxList])
		full[impl.MaxList-1] = a
		check(full, impl.ErrInvalid)
	}
}

func TestProductsOfIntervals(t *testing.T) {
	for _, c := range []struct{ a, b, want impl.Interval }{
		{span(-2, 3), span(4, 5), span(-10, 15)},
		{span(2, 3), span(4, 5), span(8, 15)},
		{span(-3, -2), span(4, 5), span(-15, -8)},
		{span(-3, -2), span(-5, -4), span(8, 15)},
		{span(-3, 2), span(-5, 4), span(-12, 15)},
		{span(-2, 5), span(-3, 7), span(-15, 35)},
		{span(0, 0), span(-factorTop, factorTop), span(0, 0)},
		{span(-1, -1), span(-2, 7), span(-7, 2)},
		{span(0, 4), span(-6, 0), span(-24, 0)},
		{span(-factorTop, factorTop), span(-factorTop, factorTop), span(-top, top)},
		{span(factorTop, factorTop), span(factorTop, factorTop), span(top, top)},
		{span(-factorTop, -factorTop), span(factorTop, factorTop), span(-top, -top)},
	} {
		got, code := impl.ProductInterval(c.a, c.b)
		checkInterval(t, "ProductInterval", got, code, c.want)
		got, code = impl.ProductInterval(c.b, c.a)
		checkInterval(t, "ProductInterval", got, code, c.want)
	}
}

func TestProductContainsProducts(t *testing.T) {
	for _, a := range smallIntervals() {
		for _, b := range smallIntervals() {
			got, code := impl.ProductInterval(a, b)
			least, greatest := int64(math.MaxInt64), int64(math.MinInt64)
			for _, i := range quarters(a) {
				for _, j := range quarters(b) {
					least, greatest = min(least, i*j), max(greatest, i*j)
				}
			}
			if got.Low*16 != least || got.High*16 != greatest || code != impl.ErrNone {
				t.Errorf("ProductInterval(%v, %v) = %v, %d", a, b, got, code)
			}
		}
	}
}

func TestProductErrors(t *testing.T) {
	check := func(a, b impl.Interval, want int64) {
		t.Helper()
		got, code := impl.ProductInterval(a, b)
		checkNoInterval(t, "ProductInterval", got, code, want)
		got, code = impl.ProductInterval(b, a)
		checkNoInterval(t, "ProductInterval", got, code, want)
	}
	wide := []impl.Interval{
		span(0, factorTop+1), span(-factorTop-1, 0), span(factorTop+1, factorTop+1), span(-factorTop-1, -factorTop-1),
		span(-factorTop-1, factorTop+1), span(-top, top), span(top, top), span(-top, -top),
	}
	for _, a := range wide {
		check(a, span(0, 0), impl.ErrRange) // even though the product would be a value
		check(a, span(-1, 1), impl.ErrRange)
		check(a, a, impl.ErrRange)
	}
	for _, a := range invalidIntervals {
		check(a, span(1, 2), impl.ErrInvalid)
		check(a, a, impl.ErrInvalid)
		for _, b := range wide {
			check(a, b, impl.ErrInvalid) // validity is checked before the range
		}
	}
}

func TestQuotientsOfIntervals(t *testing.T) {
	for _, c := range []struct{ a, b, want impl.Interval }{
		{span(7, 9), span(2, 3), span(2, 5)},
		{span(-7, 1), span(-3, -2), span(-1, 4)},
		{span(-9, -7), span(2, 3), span(-5, -2)},
		{span(-9, -7), span(-3, -2), span(2, 5)},
		{span(7, 9), span(-3, -2), span(-5, -2)},
		{span(-5, 7), span(2, 3), span(-3, 4)},
		{span(0, 0), span(5, 9), span(0, 0)},
		{span(6, 6), span(3, 3), span(2, 2)},
		{span(7, 7), span(3, 3), span(2, 3)},
		{span(-7, -7), span(3, 3), span(-3, -2)},
		{span(7, 7), span(-3, -3), span(-3, -2)},
		{span(-6, 6), span(-1, -1), span(-6, 6)},
		{span(1, 2), span(1, top), span(0, 2)},
		{span(-1, 0), span(top, top), span(-1, 0)},
		{span(-top, top), span(1, top), span(-top, top)},
		{span(-top, top), span(-top, -1), span(-top, top)},
		{span(top, top), span(top-1, top), span(1, 2)},
		{span(top-1, top-1), span(top, top), span(0, 1)},
	} {
		got, code := impl.QuotientInterval(c.a, c.b)
		checkInterval(t, "QuotientInterval", got, code, c.want)
	}
}

func TestQuotientContainsQuotients(t *testing.T) {
	for _, a := range smallIntervals() {
		for _, b := range smallIntervals() {
			got, code := impl.QuotientInterval(a, b)
			if b.Low <= 0 && b.High >= 0 {
				checkNoInterval(t, "QuotientInterval", got, code, impl.ErrState)
				continue
			}
			least, greatest := int64(math.MaxInt64), int64(math.MinInt64)
			for _, i := range quarters(a) {
				for _, j := range quarters(b) {
					least, greatest = min(least, floorOf(i, j)), max(greatest, -floorOf(-i, j))
				}
			}
			if got != span(least, greatest) || code != impl.ErrNone {
				t.Errorf("QuotientInterval(%v, %v) = %v, %d", a, b, got, code)
			}
		}
	}
}

func TestQuotientIntervalErrors(t *testing.T) {
	withZero := []impl.Interval{span(0, 0), span(-1, 1), span(0, 5), span(-5, 0), span(-top, top), span(0, top), span(-top, 0)}
	for _, b := range withZero {
		for _, a := range []impl.Interval{span(0, 0), span(1, 2), span(-top, top)} {
			got, code := impl.QuotientInterval(a, b)
			checkNoInterval(t, "QuotientInterval", got, code, impl.ErrState)
		}
	}
	for _, a := range invalidIntervals {
		for _, b := range append(withZero, span(1, 2), a) {
			got, code := impl.QuotientInterval(a, b) // validity is checked before the divisor 0
			checkNoInterval(t, "QuotientInterval", got, code, impl.ErrInvalid)
			got, code = impl.QuotientInterval(b, a)
			checkNoInterval(t, "QuotientInterval", got, code, impl.ErrInvalid)
		}
	}
}

func TestScaledIntervals(t *testing.T) {
	for _, c := range []struct {
		a        impl.Interval
		num, den int64
		want     impl.Interval
	}{
		{span(1, 2), -3, 2, span(-3, -1)},
		{span(1, 2), 3, 2, span(1, 3)},
		{span(-2, -1), 3, 2, span(-3, -1)},
		{span(-5, 7), 1, 3, span(-2, 3)},
		{span(-5, 7), -1, 3, span(-3, 2)},
		{span(-5, 7), 0, 3, span(0, 0)},
		{span(7, 7), 1, 2, span(3, 4)},
		{span(8, 8), 1, 2, span(4, 4)},
		{span(-top, top), 1, 1, span(-top, top)},
		{span(-top, top), -1, 1, span(-top, top)},
		{span(-top, top), factorTop, factorTop, span(-top, top)},
		{span(-top, top), -factorTop, factorTop, span(-top, top)},
		{span(1-top, top-1), factorTop - 1, factorTop, span(-999999000000, 999999000000)},
		{span(-factorTop, factorTop), factorTop, 1, span(-top, top)},
		{span(-1, 1), 1, factorTop, span(-1, 1)},
		{span(0, 0), factorTop, 1, span(0, 0)},
		{span(-top, top), 1, factorTop, span(-factorTop, factorTop)},
		// 999999000000 * 1000000 / 999999 is exactly the greatest value.
		{span(999999000000, 999999000000), factorTop, 999999, span(top, top)},
		{span(999998999999, 999998999999), factorTop, 999999, span(top-2, top-1)},
	} {
		got, code := impl.ScaledInterval(c.a, c.num, c.den)
		checkInterval(t, "ScaledInterval", got, code, c.want)
	}
}

func TestScaledContainsScaled(t *testing.T) {
	for _, a := range smallIntervals() {
		for num := int64(-5); num <= 5; num++ {
			for den := int64(1); den <= 5; den++ {
				got, code := impl.ScaledInterval(a, num, den)
				least, greatest := int64(math.MaxInt64), int64(math.MinInt64)
				for _, i := range quarters(a) {
					least, greatest = min(least, floorOf(i*num, 4*den)), max(greatest, -floorOf(-i*num, 4*den))
				}
				if got != span(least, greatest) || code != impl.ErrNone {
					t.Errorf("ScaledInterval(%v, %d, %d) = %v, %d", a, num, den, got, code)
				}
			}
		}
	}
}

func TestScaledErrors(t *testing.T) {
	wrongScales := [][2]int64{
		{factorTop + 1, 1}, {-factorTop - 1, 1}, {math.MaxInt64, 1}, {math.MinInt64, 1}, {factorTop + 1, factorTop + 1},
		{1, 0}, {0, 0}, {1, -1}, {1, factorTop + 1}, {1, math.MaxInt64}, {1, math.MinInt64},
	}
	for _, s := range wrongScales {
		for _, a := range []impl.Interval{span(0, 0), span(1, 2), span(-top, top)} {
			got, code := impl.ScaledInterval(a, s[0], s[1])
			checkNoInterval(t, "ScaledInterval", got, code, impl.ErrRange)
		}
		for _, a := range invalidIntervals {
			got, code := impl.ScaledInterval(a, s[0], s[1]) // validity is checked before the scale
			checkNoInterval(t, "ScaledInterval", got, code, impl.ErrInvalid)
		}
	}
	for _, a := range invalidIntervals {
		got, code := impl.ScaledInterval(a, 1, 1)
		checkNoInterval(t, "ScaledInterval", got, code, impl.ErrInvalid)
	}
	for _, c := range []struct {
		a        impl.Interval
		num, den int64
	}{
		{span(0, top), 2, 1},
		{span(-top, 0), 2, 1},
		{span(-top, 0), -2, 1},
		{span(0, top), -2, 1},
		{span(-top, top), factorTop, 1},
		{span(-top, top), factorTop, factorTop - 1},
		{span(factorTop+1, factorTop+1), factorTop, 1},
		{span(-factorTop-1, -factorTop-1), factorTop, 1},
		// The scaled number is less than 1 beyond the values, and rounds to the next one.
		{span(666666666667, 666666666667), 3, 2},
		{span(-666666666667, -666666666667), 3, 2},
		{span(0, 666666666667), -3, 2},
	} {
		got, code := impl.ScaledInterval(c.a, c.num, c.den)
		checkNoInterval(t, "ScaledInterval", got, code, impl.ErrRange)
	}
	got, code := impl.ScaledInterval(span(-666666666666, 666666666666), 3, 2)
	checkInterval(t, "ScaledInterval", got, code, span(1-top, top-1))
}

func TestEnclosures(t *testing.T) {
	full := make([]impl.Interval, impl.MaxList)
	for i := range full {
		full[i] = span(int64(-i), int64(2*i))
	}
	for _, c := range []struct {
		list []impl.Interval
		want impl.Interval
	}{
		{[]impl.Interval{span(4, 6)}, span(4, 6)},
		{[]impl.Interval{span(4, 6), span(1, 4)}, span(1, 6)},
		{[]impl.Interval{span(1, 2), span(8, 9)}, span(1, 9)},
		{[]impl.Interval{span(8, 9), span(1, 2)}, span(1, 9)},
		{[]impl.Interval{span(2, 3), span(1, 9), span(4, 5)}, span(1, 9)},
		{[]impl.Interval{span(-9, -8), span(-5, -5)}, span(-9, -5)}, // 0 is not in it
		{[]impl.Interval{span(5, 5), span(5, 5)}, span(5, 5)},
		{[]impl.Interval{span(-top, -top), span(top, top)}, span(-top, top)},
		{full, span(-199, 398)},
	} {
		before := slices.Clone(c.list)
		got, code := impl.EncloseAll(c.list)
		checkInterval(t, "EncloseAll", got, code, c.want)
		if !slices.Equal(before, c.list) {
			t.Errorf("EncloseAll changed %v to %v", before, c.list)
		}
	}
	for _, list := range [][]impl.Interval{nil, {}} {
		got, code := impl.EncloseAll(list)
		checkNoInterval(t, "EncloseAll of no intervals", got, code, impl.ErrNotFound)
	}
}

func TestEnclosureIsLeast(t *testing.T) {
	for _, a := range smallIntervals() {
		for _, b := range smallIntervals() {
			numbers := append(quarters(a), quarters(b)...)
			got, code := impl.EncloseAll([]impl.Interval{a, b})
			if got.Low*4 != slices.Min(numbers) || got.High*4 != slices.Max(numbers) || code != impl.ErrNone {
				t.Errorf("EncloseAll(%v, %v) = %v, %d", a, b, got, code)
			}
		}
	}
}

func TestMeetingsAreCommonNumbers(t *testing.T) {
	for _, a := range smallIntervals() {
		for _, b := range smallIntervals() {
			var common []int64
			for _, n := range quarters(a) {
				if slices.Contains(quarters(b), n) {
					common = append(common, n)
				}
			}
			got, code := impl.MeetInterval(a, b)
			if len(common) == 0 {
				checkNoInterval(t, "MeetInterval", got, code, impl.ErrNotFound)
				continue
			}
			if code != impl.ErrNone || !slices.Equal(quarters(got), common) {
				t.Errorf("MeetInterval(%v, %v) = %v, %d", a, b, got, code)
			}
		}
	}
}

func TestMeetingLimitsAndErrors(t *testing.T) {
	for _, c := range []struct{ a, b, want impl.Interval }{
		{span(-top, top), span(-top, top), span(-top, top)},
		{span(-top, top), span(top, top), span(top, top)},
		{span(-top, 0), span(0, top), span(0, 0)},
		{span(1, 4), span(4, 6), span(4, 4)},
	} {
		got, code := impl.MeetInterval(c.a, c.b)
		checkInterval(t, "MeetInterval", got, code, c.want)
		got, code = impl.MeetInterval(c.b, c.a)
		checkInterval(t, "MeetInterval", got, code, c.want)
	}
	for _, c := range []struct{ a, b impl.Interval }{
		{span(1, 4), span(5, 6)},
		{span(-top, -top), span(top, top)},
		{span(-top, -1), span(0, top)},
	} {
		got, code := impl.MeetInterval(c.a, c.b)
		checkNoInterval(t, "MeetInterval", got, code, impl.ErrNotFound)
		got, code = impl.MeetInterval(c.b, c.a)
		checkNoInterval(t, "MeetInterval", got, code, impl.ErrNotFound)
	}
	for _, a := range invalidIntervals {
		for _, b := range []impl.Interval{span(1, 2), span(-top, -top), span(-top, top), a} {
			got, code := impl.MeetInterval(a, b) // validity is checked before the meeting
			checkNoInterval(t, "MeetInterval", got, code, impl.ErrInvalid)
			got, code = impl.MeetInterval(b, a)
			checkNoInterval(t, "MeetInterval", got, code, impl.ErrInvalid)
		}
	}
}
