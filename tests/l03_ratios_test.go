package tests

import (
	"math"
	"math/big"
	"strings"
	"testing"

	"loop.example/g00915/impl"
)

const (
	term      = impl.MaxTerm
	primeTerm = 999999937 // the greatest prime below MaxTerm
)

// invalidRatios have a term beyond its limit, a common divisor, or a 0 that is not {0, 1}.
var invalidRatios = []impl.Ratio{
	{}, {Num: 1}, {Num: -1}, {Den: 2}, {Den: -1}, {Num: 1, Den: -2}, {Num: -1, Den: -1}, {Den: term},
	{Num: 2, Den: 4}, {Num: -2, Den: 4}, {Num: 6, Den: 3}, {Num: -9, Den: 9}, {Num: term, Den: term}, {Num: -term, Den: 2}, {Num: primeTerm, Den: primeTerm},
	{Num: term + 1, Den: 1}, {Num: -term - 1, Den: 1}, {Num: 1, Den: term + 1}, {Num: 0, Den: term + 1}, {Num: term + 1, Den: term + 1},
	{Num: math.MaxInt64, Den: 1}, {Num: math.MinInt64, Den: 1}, {Num: 1, Den: math.MaxInt64}, {Num: 1, Den: math.MinInt64},
	{Num: math.MinInt64, Den: math.MinInt64}, {Num: math.MinInt64, Den: -1}, {Num: math.MaxInt64, Den: math.MinInt64}, {Num: -1, Den: 0},
}

// ratio is short for the ratio with these terms.
func ratio(num, den int64) impl.Ratio {
	return impl.Ratio{Num: num, Den: den}
}

// someRatios returns all valid ratios with small terms, and ratios with terms at and near MaxTerm.
func someRatios() []impl.Ratio {
	list := []impl.Ratio{
		ratio(term, 1), ratio(-term, 1), ratio(1, term), ratio(-1, term), ratio(term, term-1), ratio(-term, term-1), ratio(term-1, term), ratio(1-term, term),
		ratio(1, primeTerm), ratio(-1, primeTerm), ratio(primeTerm, 1), ratio(primeTerm, 2), ratio(primeTerm, term), ratio(-primeTerm, term), ratio(term/2, 1),
		ratio(1, term/2), ratio(1, 31622), ratio(1, 31623), ratio(31622, 1), ratio(31623, 1), ratio(-31623, 31622), ratio(500000001, 2), ratio(2, 500000001),
	}
	for num := int64(-7); num <= 7; num++ {
		for den := int64(1); den <= 7; den++ {
			if exact := big.NewRat(num, den); exact.Denom().Int64() == den {
				list = append(list, ratio(num, den))
			}
		}
	}
	return list
}

func exactOf(r impl.Ratio) *big.Rat {
	return big.NewRat(r.Num, r.Den)
}

// checkExact checks that a result is the exact number in lowest terms, or ErrRange if a term of it
// is beyond MaxTerm.
func checkExact(t *testing.T, what string, got impl.Ratio, code int64, exact *big.Rat) {
	t.Helper()
	limit := big.NewInt(term)
	if exact.Num().CmpAbs(limit) > 0 || exact.Denom().Cmp(limit) > 0 {
		checkNoRatio(t, what, got, code, impl.ErrRange)
		return
	}
	checkRatio(t, what, got, code, ratio(exact.Num().Int64(), exact.Denom().Int64()))
}

func checkRatio(t *testing.T, what string, got impl.Ratio, code int64, want impl.Ratio) {
	t.Helper()
	if got != want || code != impl.ErrNone {
		t.Errorf("%s = %v, %d, want %v", what, got, code, want)
	}
}

func checkNoRatio(t *testing.T, what string, got impl.Ratio, code, want int64) {
	t.Helper()
	if got != (impl.Ratio{}) || code != want {
		t.Errorf("%s = %v, %d, want no ratio and code %d", what, got, code, want)
	}
}

func TestValidRatios(t *testing.T) {
	if impl.MaxTerm != 1000000000 {
		t.Error("MaxTerm")
	}
	for _, r := range someRatios() {
		if !impl.IsRatio(r) {
			t.Errorf("IsRatio(%v) = false", r)
		}
	}
	for _, r := range invalidRatios {
		if impl.IsRatio(r) {
			t.Errorf("IsRatio(%v) = true", r)
		}
	}
}

func TestMadeRatios(t *testing.T) {
	for _, c := range []struct {
		num, den int64
		want     impl.Ratio
	}{
		{6, -4, ratio(-3, 2)}, {-6, 4, ratio(-3, 2)}, {-6, -4, ratio(3, 2)}, {6, 4, ratio(3, 2)}, {3, 2, ratio(3, 2)},
		{0, 1, ratio(0, 1)}, {0, -1, ratio(0, 1)}, {0, 7, ratio(0, 1)}, {0, -7, ratio(0, 1)}, {0, top, ratio(0, 1)}, {0, -top, ratio(0, 1)},
		{7, 7, ratio(1, 1)}, {-7, 7, ratio(-1, 1)}, {7, -1, ratio(-7, 1)}, {1, -7, ratio(-1, 7)},
		{top, top, ratio(1, 1)}, {top, -top, ratio(-1, 1)}, {-top, -top, ratio(1, 1)},
		{top, 1000, ratio(term, 1)}, {-top, 1000, ratio(-term, 1)}, {1000, top, ratio(1, term)}, {1000, -top, ratio(-1, term)},
		{top, 999999999000, ratio(term, 999999999)},
	} {
		got, code := impl.MakeRatio(c.num, c.den)
		checkRatio(t, "MakeRatio", got, code, c.want)
	}
	for _, num := range someValues() {
		for _, den := range someValues() {
			if den != 0 {
				got, code := impl.MakeRatio(num, den)
				checkExact(t, "MakeRatio", got, code, big.NewRat(num, den))
			}
		}
	}
}

func TestMakeRatioErrors(t *testing.T) {
	check := func(num, den, want int64) {
		t.Helper()
		got, code := impl.MakeRatio(num, den)
		checkNoRatio(t, "MakeRatio", got, code, want)
	}
	for _, n := range notValues {
		check(n, 1, impl.ErrRange)
		check(1, n, impl.ErrRange)
		check(0, n, impl.ErrRange)
		check(n, 0, impl.ErrRange) // the values are checked before the denominator 0
		check(n, n, impl.ErrRange) // even though the ratio would be 1
	}
	for _, n := range someValues() {
		check(n, 0, impl.ErrState) // even where a term is beyond MaxTerm
	}
	// In lowest terms one beyond MaxTerm, on either side.
	check(term+1, 1, impl.ErrRange)
	check(-term-1, 1, impl.ErrRange)
	check(term+1, -1, impl.ErrRange)
	check(1, term+1, impl.ErrRange)
	check(1, -term-1, impl.ErrRange)
	check(2*(term+1), 2, impl.ErrRange)
	check(-3, 3*(term+1), impl.ErrRange)
	check(term+1, term+2, impl.ErrRange)
	check(top, 7, impl.ErrRange)
	check(7, top, impl.ErrRange)
	check(top, 999, impl.ErrRange)
}

func TestRatioSums(t *testing.T) {
	for _, c := range []struct{ a, b, want impl.Ratio }{
		{ratio(1, 2), ratio(2, 3), ratio(7, 6)},
		{ratio(1, 6), ratio(1, 3), ratio(1, 2)},
		{ratio(-1, 2), ratio(1, 2), ratio(0, 1)},
		{ratio(-1, 2), ratio(-1, 2), ratio(-1, 1)},
		{ratio(0, 1), ratio(-5, 7), ratio(-5, 7)},
		{ratio(0, 1), ratio(0, 1), ratio(0, 1)},
		{ratio(term-1, 1), ratio(1, 1), ratio(term, 1)},
		{ratio(1-term, 1), ratio(-1, 1), ratio(-term, 1)},
		{ratio(1, term), ratio(1, term), ratio(1, term/2)},
		{ratio(term-1, term), ratio(1, term), ratio(1, 1)},
		{ratio(term, term-1), ratio(-term, term-1), ratio(0, 1)},
		{ratio(1, 40000), ratio(1, 25000), ratio(13, 200000)},
	} {
		got, code := impl.AddRatios(c.a, c.b)
		checkRatio(t, "AddRatios", got, code, c.want)
	}
	for _, c := range [][2]impl.Ratio{
		{ratio(term, 1), ratio(1, 1)}, {ratio(-term, 1), ratio(-1, 1)}, {ratio(term, 1), ratio(term, 1)}, {ratio(-term, 1), ratio(-term, 1)},
		{ratio(1, primeTerm), ratio(1, 2)}, {ratio(term, 1), ratio(1, term)}, {ratio(1, term), ratio(1, term-1)},
	} {
		got, code := impl.AddRatios(c[0], c[1])
		checkNoRatio(t, "AddRatios", got, code, impl.ErrRange)
	}
}

func TestRatioProducts(t *testing.T) {
	for _, c := range []struct{ a, b, want impl.Ratio }{
		{ratio(1, 2), ratio(2, 3), ratio(1, 3)},
		{ratio(-3, 4), ratio(2, 9), ratio(-1, 6)},
		{ratio(-3, 4), ratio(-4, 3), ratio(1, 1)},
		{ratio(0, 1), ratio(-5, 7), ratio(0, 1)},
		{ratio(0, 1), ratio(1, term), ratio(0, 1)},
		{ratio(term, 1), ratio(1, term), ratio(1, 1)},
		{ratio(-term, term-1), ratio(term-1, term), ratio(-1, 1)},
		{ratio(40000, 1), ratio(25000, 1), ratio(term, 1)},
		{ratio(1, 40000), ratio(-1, 25000), ratio(-1, term)},
		{ratio(term, 1), ratio(-1, 1), ratio(-term, 1)},
	} {
		got, code := impl.MultiplyRatios(c.a, c.b)
		checkRatio(t, "MultiplyRatios", got, code, c.want)
	}
	// 1000000001 is 1001 * 999001, one beyond MaxTerm.
	for _, c := range [][2]impl.Ratio{
		{ratio(1001, 1), ratio(999001, 1)}, {ratio(-1001, 1), ratio(999001, 1)}, {ratio(1, 1001), ratio(1, 999001)}, {ratio(1, 1001), ratio(-2, 999001)},
		{ratio(term, 1), ratio(term, 1)}, {ratio(term, 1), ratio(-term, 1)}, {ratio(1, term), ratio(1, term)}, {ratio(1, primeTerm), ratio(1, 2)},
	} {
		got, code := impl.MultiplyRatios(c[0], c[1])
		checkNoRatio(t, "MultiplyRatios", got, code, impl.ErrRange)
	}
}

func TestSumsAndProductsAreExact(t *testing.T) {
	for _, a := range someRatios() {
		for _, b := range someRatios() {
			got, code := impl.AddRatios(a, b)
			checkExact(t, "AddRatios", got, code, new(big.Rat).Add(exactOf(a), exactOf(b)))
			got, code = impl.MultiplyRatios(a, b)
			checkExact(t, "MultiplyRatios", got, code, new(big.Rat).Mul(exactOf(a), exactOf(b)))
		}
	}
}

func TestInverses(t *testing.T) {
	for _, c := range []struct{ r, want impl.Ratio }{
		{ratio(-2, 3), ratio(-3, 2)}, {ratio(2, 3), ratio(3, 2)}, {ratio(1, 1), ratio(1, 1)}, {ratio(-1, 1), ratio(-1, 1)}, {ratio(-1, 5), ratio(-5, 1)},
		{ratio(term, 1), ratio(1, term)}, {ratio(-term, 1), ratio(-1, term)}, {ratio(-1, term), ratio(-term, 1)}, {ratio(term-1, term), ratio(term, term-1)},
	} {
		got, code := impl.InvertRatio(c.r)
		checkRatio(t, "InvertRatio", got, code, c.want)
	}
	for _, r := range someRatios() {
		got, code := impl.InvertRatio(r)
		if r.Num == 0 {
			checkNoRatio(t, "InvertRatio of 0", got, code, impl.ErrState)
			continue
		}
		checkExact(t, "InvertRatio", got, code, new(big.Rat).Inv(exactOf(r)))
	}
}

func TestRatioOrder(t *testing.T) {
	for _, c := range []struct {
		a, b impl.Ratio
		want int64
	}{
		{ratio(1, 2), ratio(2, 3), -1}, {ratio(-1, 2), ratio(-2, 3), 1}, {ratio(-1, 2), ratio(1, 3), -1}, {ratio(5, 7), ratio(5, 7), 0}, {ratio(0, 1), ratio(-1, term), 1},
		{ratio(term-1, term), ratio(term-2, term-1), 1}, {ratio(term, term-1), ratio(term-1, term-2), -1}, {ratio(term, 1), ratio(-term, 1), 1}, {ratio(1, term), ratio(1, term-1), -1},
	} {
		if got, code := impl.CompareRatios(c.a, c.b); got != c.want || code != impl.ErrNone {
			t.Errorf("CompareRatios(%v, %v) = %d, %d", c.a, c.b, got, code)
		}
	}
	for _, a := range someRatios() {
		for _, b := range someRatios() {
			want := int64(exactOf(a).Cmp(exactOf(b)))
			if got, code := impl.CompareRatios(a, b); got != want || code != impl.ErrNone {
				t.Errorf("CompareRatios(%v, %v) = %d, %d", a, b, got, code)
			}
		}
	}
}

func TestMediants(t *testing.T) {
	for _, c := range []struct{ a, b, want impl.Ratio }{
		{ratio(1, 2), ratio(2, 3), ratio(3, 5)},
		{ratio(1, 3), ratio(2, 3), ratio(1, 2)}, // 3/6 in lowest terms
		{ratio(-1, 2), ratio(1, 2), ratio(0, 1)},
		{ratio(-1, 2), ratio(-2, 3), ratio(-3, 5)},
		{ratio(-3, 4), ratio(1, 2), ratio(-1, 3)},
		{ratio(0, 1), ratio(0, 1), ratio(0, 1)},
		{ratio(0, 1), ratio(1, 1), ratio(1, 2)},
		{ratio(5, 7), ratio(5, 7), ratio(5, 7)},
		{ratio(term, 1), ratio(term, 1), ratio(term, 1)},
		{ratio(-1, term), ratio(-1, term), ratio(-1, term)},
		{ratio(term, 1), ratio(-term, 1), ratio(0, 1)},
		{ratio(1, term-1), ratio(0, 1), ratio(1, term)},
		{ratio(1, term), ratio(1, term-2), ratio(1, term-1)},
		{ratio(term-1, 1), ratio(1, 2), ratio(term, 3)},
	} {
		got, code := impl.MediantOf(c.a, c.b)
		checkRatio(t, "MediantOf", got, code, c.want)
	}
	for _, c := range [][2]impl.Ratio{
		{ratio(1, term), ratio(0, 1)}, {ratio(-1, term), ratio(0, 1)}, {ratio(term, 1), ratio(1, 2)}, {ratio(-term, 1), ratio(-1, 2)},
		{ratio(term, 1), ratio(term-1, 1)}, {ratio(1, term), ratio(1, term-1)},
	} {
		got, code := impl.MediantOf(c[0], c[1])
		checkNoRatio(t, "MediantOf", got, code, impl.ErrRange)
		got, code = impl.MediantOf(c[1], c[0])
		checkNoRatio(t, "MediantOf", got, code, impl.ErrRange)
	}
}

func TestMediantLiesBetween(t *testing.T) {
	for _, a := range someRatios() {
		for _, b := range someRatios() {
			got, code := impl.MediantOf(a, b)
			checkExact(t, "MediantOf", got, code, big.NewRat(a.Num+b.Num, a.Den+b.Den))
			if code != impl.ErrNone {
				continue
			}
			order := exactOf(a).Cmp(exactOf(b))
			if exactOf(a).Cmp(exactOf(got)) != order || exactOf(got).Cmp(exactOf(b)) != order {
				t.Errorf("MediantOf(%v, %v) = %v does not lie between them", a, b, got)
			}
		}
	}
}

// TestInvalidRatios checks that validity is checked before everything else, in each place of an
// argument.
func TestInvalidRatios(t *testing.T) {
	type combination struct {
		name    string
		combine func(a, b impl.Ratio) (impl.Ratio, int64)
	}
	list := []combination{{"AddRatios", impl.AddRatios}, {"MultiplyRatios", impl.MultiplyRatios}, {"MediantOf", impl.MediantOf}}
	for _, r := range invalidRatios {
		for _, other := range []impl.Ratio{ratio(0, 1), ratio(1, 2), ratio(-1, 1), ratio(term, 1), ratio(1, term), r} {
			for _, c := range list {
				got, code := c.combine(r, other)
				checkNoRatio(t, c.name, got, code, impl.ErrInvalid)
				got, code = c.combine(other, r)
				checkNoRatio(t, c.name, got, code, impl.ErrInvalid)
			}
			if got, code := impl.CompareRatios(r, other); got != 0 || code != impl.ErrInvalid {
				t.Errorf("CompareRatios(%v, %v) = %d, %d", r, other, got, code)
			}
			if got, code := impl.CompareRatios(other, r); got != 0 || code != impl.ErrInvalid {
				t.Errorf("CompareRatios(%v, %v) = %d, %d", other, r, got, code)
			}
		}
		got, code := impl.InvertRatio(r)
		checkNoRatio(t, "InvertRatio", got, code, impl.ErrInvalid)
		for _, k := range []int64{0, 1, factorTop, -1, factorTop + 1, math.MinInt64, math.MaxInt64} {
			got, code := impl.RatioBounds(r, k)
			checkNoInterval(t, "RatioBounds", got, code, impl.ErrInvalid)
		}
	}
}

func TestRatioBounds(t *testing.T) {
	for _, c := range []struct {
		r    impl.Ratio
		k    int64
		want impl.Interval
	}{
		{ratio(-1, 3), 10, span(-4, -3)},
		{ratio(1, 3), 10, span(3, 4)},
		{ratio(1, 3), 9, span(3, 3)},
		{ratio(-1, 3), 9, span(-3, -3)},
		{ratio(2, 3), 1, span(0, 1)},
		{ratio(-2, 3), 1, span(-1, 0)},
		{ratio(5, 7), 0, span(0, 0)},
		{ratio(-term, 1), 0, span(0, 0)},
		{ratio(0, 1), factorTop, span(0, 0)},
		{ratio(1, term), factorTop, span(0, 1)},
		{ratio(-1, term), factorTop, span(-1, 0)},
		{ratio(term, 1), 1000, span(top, top)},
		{ratio(-term, 1), 1000, span(-top, -top)},
		{ratio(factorTop, 1), factorTop, span(top, top)},
		{ratio(term, 999), 999000, span(top, top)},
		{ratio(999999999, 1000), factorTop, span(999999999000, 999999999000)},
		// The product is less than 1 within the values, and rounds to the last one.
		{ratio(521784503, 2), 3833, span(top-1, top)},
		{ratio(-521784503, 2), 3833, span(-top, 1-top)},
	} {
		got, code := impl.RatioBounds(c.r, c.k)
		checkInterval(t, "RatioBounds", got, code, c.want)
	}
	for _, r := range someRatios() {
		for _, k := range []int64{0, 1, 2, 3, 60, 999, 1000, 1001, 999999, factorTop} {
			got, code := impl.RatioBounds(r, k)
			want := span(floorOf(k*r.Num, r.Den), -floorOf(-k*r.Num, r.Den))
			if want.Low < -top || want.High > top {
				checkNoInterval(t, "RatioBounds", got, code, impl.ErrRange)
				continue
			}
			checkInterval(t, "RatioBounds", got, code, want)
		}
	}
}

func TestRatioBoundsErrors(t *testing.T) {
	for _, c := range []struct {
		r impl.Ratio
		k int64
	}{
		{ratio(0, 1), -1}, {ratio(0, 1), factorTop + 1}, {ratio(0, 1), math.MinInt64}, {ratio(0, 1), math.MaxInt64},
		{ratio(1, 2), -1}, {ratio(1, 2), factorTop + 1}, {ratio(-term, 1), math.MinInt64}, {ratio(term, 1), math.MaxInt64},
		{ratio(term, 1), 1001}, {ratio(-term, 1), 1001}, {ratio(term, 1), factorTop}, {ratio(factorTop+1, 1), factorTop},
		// The product is less than 1 beyond the values, and rounds to the next integer.
		{ratio(852151683, 2), 2347}, {ratio(-852151683, 2), 2347}, {ratio(750412727, 5), 6663}, {ratio(-750412727, 5), 6663},
	} {
		got, code := impl.RatioBounds(c.r, c.k)
		checkNoInterval(t, "RatioBounds", got, code, impl.ErrRange)
	}
}

func TestRatioTexts(t *testing.T) {
	for _, c := range []struct {
		r    impl.Ratio
		want string
	}{
		{ratio(-3, 2), "-3/2"}, {ratio(3, 2), "3/2"}, {ratio(0, 1), "0/1"}, {ratio(7, 1), "7/1"}, {ratio(-1, 10), "-1/10"},
		{ratio(term, 1), "1000000000/1"}, {ratio(-term, 999999999), "-1000000000/999999999"}, {ratio(1, term), "1/1000000000"},
	} {
		if got := impl.RatioText(c.r); got != c.want {
			t.Errorf("RatioText(%v) = %q", c.r, got)
		}
	}
	for _, r := range someRatios() {
		if got, ok := impl.ReadRatio(impl.RatioText(r)); got != r || !ok {
			t.Errorf("%v is read as %v, %v from %q", r, got, ok, impl.RatioText(r))
		}
	}
	for _, r := range invalidRatios {
		if got := impl.RatioText(r); got != "" {
			t.Errorf("RatioText(%v) = %q", r, got)
		}
	}
}

func TestTextsOfNoRatio(t *testing.T) {
	for _, s := range []string{
		"", "/", "1", "-1", "0", "1/", "/1", "-/1", "1/-", "//", "1//2", "1/2/3", "1/2/", "/1/2",
		"2/4", "-2/4", "0/2", "0/0", "1/0", "-1/0", "1/-2", "-1/-2", "0/-1", "-0/1", "+1/2", "1/+2", "--1/2", "01/2", "1/02", "-01/2", "00/1", "1/2.0", "1.0/2",
		" 1/2", "1/2 ", "1 /2", "1/ 2", "1/2\n", "1/2\x00", "\x001/2", "1\\2", "1:2", "1_0/3", "3/1_0", "0x1/2", "1e1/3", "a/b", "1/b", "\u0661/2", "1\u20442",
		"1000000001/1", "-1000000001/1", "1/1000000001", "0/1000000001", "9223372036854775808/1", "1/9223372036854775808", "9223372036854775807/1",
		"-9223372036854775808/1", "-9223372036854775809/1", "1/18446744073709551618", "18446744073709551617/2",
		strings.Repeat("9", 5000) + "/1", "1/" + strings.Repeat("0", 5000) + "2", strings.Repeat("1/", 5000) + "1",
	} {
		if r, ok := impl.ReadRatio(s); ok || r != (impl.Ratio{}) {
			t.Errorf("ReadRatio(%q) = %v, %v", s, r, ok)
		}
	}
}
