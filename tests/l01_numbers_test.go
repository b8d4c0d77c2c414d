package tests

import (
	"math"
	"math/big"
	"slices"
	"strings"
	"testing"

	"loop.example/g00915/impl"
)

// notValues are the numbers next to the values and the most distant ones.
var notValues = []int64{impl.MaxValue + 1, -impl.MaxValue - 1, math.MaxInt64, math.MinInt64}

// someValues returns small numbers of both signs and numbers at and near the limits of values.
func someValues() []int64 {
	list := []int64{impl.MaxValue, impl.MaxValue - 1, impl.MaxValue / 2, 999999999989, 600851475143}
	for n := int64(1); n <= 25; n++ {
		list = append(list, n)
	}
	for _, n := range slices.Clone(list) {
		list = append(list, -n)
	}
	return append(list, 0)
}

func TestConstantsOfNumbers(t *testing.T) {
	codes := []int64{impl.ErrNone, impl.ErrInvalid, impl.ErrRange, impl.ErrLimit, impl.ErrNotFound, impl.ErrState, impl.ErrSyntax}
	for i, code := range codes {
		if code != int64(i) {
			t.Errorf("error code %d = %d", i, code)
		}
	}
	if impl.MaxValue != 1000000000000 || impl.MaxSquare != 4000000000000000000 || impl.MaxList != 200 {
		t.Error("limits of chapter 1")
	}
}

func TestQuotientCases(t *testing.T) {
	for _, c := range []struct{ a, b, down, up, near int64 }{
		{-7, 2, -4, -3, -4},
		{7, -2, -4, -3, -4},
		{-7, -2, 3, 4, 4},
		{7, 2, 3, 4, 4},
		{5, 2, 2, 3, 2},
		{-5, 2, -3, -2, -2},
		{1, 2, 0, 1, 0},
		{-1, 2, -1, 0, 0},
		{3, -2, -2, -1, -2},
		{7, 3, 2, 3, 2},
		{8, 3, 2, 3, 3},
		{-7, 3, -3, -2, -2},
		{-8, 3, -3, -2, -3},
		{6, -3, -2, -2, -2},
		{0, -9, 0, 0, 0},
		{impl.MaxValue, 1, impl.MaxValue, impl.MaxValue, impl.MaxValue},
		{impl.MaxValue, -1, -impl.MaxValue, -impl.MaxValue, -impl.MaxValue},
		{-impl.MaxValue, impl.MaxValue, -1, -1, -1},
		{1, impl.MaxValue, 0, 1, 0},
		{-1, impl.MaxValue, -1, 0, 0},
		{impl.MaxValue / 2, impl.MaxValue, 0, 1, 0},
		{impl.MaxValue/2 + 1, impl.MaxValue, 0, 1, 1},
	} {
		if down, up, code := impl.QuotientBounds(c.a, c.b); down != c.down || up != c.up || code != impl.ErrNone {
			t.Errorf("QuotientBounds(%d, %d) = %d, %d, %d", c.a, c.b, down, up, code)
		}
		if near, code := impl.NearestQuotient(c.a, c.b); near != c.near || code != impl.ErrNone {
			t.Errorf("NearestQuotient(%d, %d) = %d, %d", c.a, c.b, near, code)
		}
	}
}

// floorOf returns a / b rounded down, by another way than the program's.
func floorOf(a, b int64) int64 {
	if b < 0 {
		a, b = -a, -b
	}
	quotient, _ := new(big.Int).DivMod(big.NewInt(a), big.NewInt(b), new(big.Int))
	return quotient.Int64()
}

func TestQuotientsEnclose(t *testing.T) {
	for _, a := range someValues() {
		for _, b := range someValues() {
			if b == 0 {
				continue
			}
			down, up, code := impl.QuotientBounds(a, b)
			if down != floorOf(a, b) || up != -floorOf(-a, b) || code != impl.ErrNone {
				t.Errorf("QuotientBounds(%d, %d) = %d, %d, %d", a, b, down, up, code)
			}
			near, code := impl.NearestQuotient(a, b)
			// The floor of the quotient plus a half is the nearest one, or the upper one of a tie.
			want := floorOf(2*a+b, 2*b)
			if 2*a == (2*want-1)*b && want%2 != 0 {
				want--
			}
			if near != want || code != impl.ErrNone {
				t.Errorf("NearestQuotient(%d, %d) = %d, %d, want %d", a, b, near, code, want)
			}
		}
	}
}

func checkQuotientError(t *testing.T, a, b, want int64) {
	t.Helper()
	if down, up, code := impl.QuotientBounds(a, b); down != 0 || up != 0 || code != want {
		t.Errorf("QuotientBounds(%d, %d) = %d, %d, %d", a, b, down, up, code)
	}
	if near, code := impl.NearestQuotient(a, b); near != 0 || code != want {
		t.Errorf("NearestQuotient(%d, %d) = %d, %d", a, b, near, code)
	}
}

func TestQuotientErrors(t *testing.T) {
	for _, n := range notValues {
		checkQuotientError(t, n, 1, impl.ErrRange)
		checkQuotientError(t, 1, n, impl.ErrRange)
		checkQuotientError(t, n, 0, impl.ErrRange) // the range is checked before the divisor 0
		checkQuotientError(t, n, n, impl.ErrRange)
	}
	for _, n := range someValues() {
		checkQuotientError(t, n, 0, impl.ErrState)
	}
}

func checkRoot(t *testing.T, n int64) {
	t.Helper()
	want := new(big.Int).Sqrt(big.NewInt(n)).Int64()
	wantUp := want
	if want*want != n {
		wantUp++
	}
	if down, up, code := impl.RootBounds(n); down != want || up != wantUp || code != impl.ErrNone {
		t.Errorf("RootBounds(%d) = %d, %d, %d, want %d, %d", n, down, up, code, want, wantUp)
	}
}

func TestRoots(t *testing.T) {
	for n := int64(0); n <= 2000; n++ {
		checkRoot(t, n)
	}
	for _, root := range []int64{46341, 65536, 94906267, 999999999, 1000000000, 1414213562, 1999999999, 2000000000} {
		square := root * root
		checkRoot(t, square-1)
		checkRoot(t, square)
		if square < impl.MaxSquare {
			checkRoot(t, square+1)
			checkRoot(t, square+2*root)
		}
	}
	if down, up, _ := impl.RootBounds(8); down != 2 || up != 3 {
		t.Errorf("RootBounds(8) = %d, %d", down, up)
	}
	if down, up, code := impl.RootBounds(impl.MaxSquare); down != 2000000000 || up != 2000000000 || code != impl.ErrNone {
		t.Errorf("RootBounds(MaxSquare) = %d, %d, %d", down, up, code)
	}
}

func TestRootErrors(t *testing.T) {
	for _, n := range []int64{-1, -4, math.MinInt64, impl.MaxSquare + 1, math.MaxInt64} {
		if down, up, code := impl.RootBounds(n); down != 0 || up != 0 || code != impl.ErrRange {
			t.Errorf("RootBounds(%d) = %d, %d, %d", n, down, up, code)
		}
	}
}

func TestCommonDivisors(t *testing.T) {
	for _, c := range []struct{ a, b, want int64 }{
		{0, 0, 0}, {0, 5, 5}, {-5, 0, 5}, {12, 18, 6}, {-12, 18, 6}, {12, -18, 6}, {-12, -18, 6}, {17, 5, 1}, {7, 7, 7},
		{impl.MaxValue, -impl.MaxValue, impl.MaxValue}, {impl.MaxValue, 1 << 39, 1 << 12}, {0, -impl.MaxValue, impl.MaxValue},
	} {
		if got, code := impl.CommonDivisor(c.a, c.b); got != c.want || code != impl.ErrNone {
			t.Errorf("CommonDivisor(%d, %d) = %d, %d", c.a, c.b, got, code)
		}
	}
	for _, a := range someValues() {
		for _, b := range someValues() {
			want := new(big.Int).GCD(nil, nil, new(big.Int).Abs(big.NewInt(a)), new(big.Int).Abs(big.NewInt(b))).Int64()
			if got, code := impl.CommonDivisor(a, b); got != want || code != impl.ErrNone {
				t.Errorf("CommonDivisor(%d, %d) = %d, %d, want %d", a, b, got, code, want)
			}
		}
	}
}

func TestCommonDivisorErrors(t *testing.T) {
	for _, n := range notValues {
		for _, pair := range [][2]int64{{n, 6}, {6, n}, {n, 0}, {0, n}, {n, n}} {
			if got, code := impl.CommonDivisor(pair[0], pair[1]); got != 0 || code != impl.ErrRange {
				t.Errorf("CommonDivisor(%d, %d) = %d, %d", pair[0], pair[1], got, code)
			}
		}
	}
}

func TestMedians(t *testing.T) {
	falling := make([]int64, impl.MaxList)
	for i := range falling {
		falling[i] = int64(impl.MaxList - i)
	}
	for _, c := range []struct {
		list []int64
		want int64
	}{
		{[]int64{7}, 7},
		{[]int64{4, 1}, 1},
		{[]int64{9, -3, 2}, 2},
		{[]int64{5, -1, 3, 3}, 3},
		{[]int64{4, 3, 2, 1}, 2},
		{[]int64{1, 5, 5, 5, 0}, 5},
		{[]int64{-1, -10, -2}, -2},
		{[]int64{impl.MaxValue, -impl.MaxValue}, -impl.MaxValue},
		{[]int64{impl.MaxValue}, impl.MaxValue},
		{falling, 100},
		{falling[:impl.MaxList-1], 101},
	} {
		before := slices.Clone(c.list)
		if got, code := impl.MedianOf(c.list); got != c.want || code != impl.ErrNone {
			t.Errorf("MedianOf(%v) = %d, %d", c.list, got, code)
		}
		if !slices.Equal(before, c.list) {
			t.Errorf("MedianOf changed %v to %v", before, c.list)
		}
	}
}

func TestMedianErrors(t *testing.T) {
	long := make([]int64, impl.MaxList+1)
	longWrong := slices.Clone(long)
	longWrong[0] = impl.MaxValue + 1
	for _, c := range []struct {
		list []int64
		want int64
	}{
		{nil, impl.ErrNotFound},
		{[]int64{}, impl.ErrNotFound},
		{long, impl.ErrLimit},
		{longWrong, impl.ErrLimit}, // the length is checked before the elements
	} {
		if got, code := impl.MedianOf(c.list); got != 0 || code != c.want {
			t.Errorf("MedianOf of %d numbers = %d, %d, want code %d", len(c.list), got, code, c.want)
		}
	}
	for _, n := range notValues {
		for _, list := range [][]int64{{n}, {1, 2, n}, {n, 1, 2}} {
			if got, code := impl.MedianOf(list); got != 0 || code != impl.ErrRange {
				t.Errorf("MedianOf(%v) = %d, %d", list, got, code)
			}
		}
	}
}

func TestRisingLists(t *testing.T) {
	for _, c := range []struct {
		list []int64
		n    int64
		want bool
	}{
		{nil, 0, true},
		{[]int64{}, -1, true},
		{nil, math.MinInt64, true},
		{[]int64{0}, 1, true},
		{[]int64{0}, 0, false},
		{[]int64{0}, math.MinInt64, false},
		{[]int64{1}, 1, false},
		{[]int64{-1}, 1, false},
		{[]int64{-1, 0}, 1, false},
		{[]int64{0, 2}, 3, true},
		{[]int64{0, 3}, 3, false},
		{[]int64{0, 0}, 3, false},
		{[]int64{1, 0}, 3, false},
		{[]int64{0, 1, 2, 4, 3}, 9, false},
		{[]int64{0, 1, 2, 3, 8}, 9, true},
		{[]int64{math.MaxInt64 - 1}, math.MaxInt64, true},
		{[]int64{math.MaxInt64}, math.MaxInt64, false},
		{[]int64{math.MinInt64, math.MaxInt64 - 1}, math.MaxInt64, false},
	} {
		if got := impl.IsRising(c.list, c.n); got != c.want {
			t.Errorf("IsRising(%v, %d) = %v", c.list, c.n, got)
		}
	}
	long := make([]int64, impl.MaxList+1)
	for i := range long {
		long[i] = int64(i)
	}
	if !impl.IsRising(long, impl.MaxList+1) {
		t.Error("IsRising of a list longer than MaxList")
	}
}

func TestMetresTexts(t *testing.T) {
	for _, c := range []struct {
		n    int64
		want string
	}{
		{0, "0.00"}, {5, "0.05"}, {-5, "-0.05"}, {50, "0.50"}, {-99, "-0.99"}, {100, "1.00"}, {-100, "-1.00"}, {-125, "-1.25"},
		{1000, "10.00"}, {123456, "1234.56"}, {impl.MaxValue, "10000000000.00"}, {-impl.MaxValue, "-10000000000.00"}, {impl.MaxValue - 1, "9999999999.99"},
	} {
		if got := impl.MetresText(c.n); got != c.want {
			t.Errorf("MetresText(%d) = %q", c.n, got)
		}
		if n, ok := impl.ReadMetres(c.want); n != c.n || !ok {
			t.Errorf("ReadMetres(%q) = %d, %v", c.want, n, ok)
		}
	}
	for _, n := range notValues {
		if got := impl.MetresText(n); got != "" {
			t.Errorf("MetresText(%d) = %q", n, got)
		}
	}
}

func TestMetresAreRecovered(t *testing.T) {
	check := func(n int64) {
		if got, ok := impl.ReadMetres(impl.MetresText(n)); got != n || !ok {
			t.Errorf("%d is read as %d, %v from %q", n, got, ok, impl.MetresText(n))
		}
	}
	for n := int64(-2100); n <= 2100; n++ {
		check(n)
	}
	for _, n := range someValues() {
		check(n)
	}
}

func TestTextsOfNoMetres(t *testing.T) {
	for _, s := range []string{
		"", "-", ".", "0", "1", "-1", "12", "123", "1.", "1.2", "1.234", ".50", "-.50", "-0.00", "+1.00", "--1.00", "01.00", "00.00", "-01.00", "-00.50",
		"1,25", "1:25", "1.25 ", " 1.25", "1.25\n", "1. 5", "1.+5", "1.-5", "-1.-5", "1..5", "1.2.50", "1_0.00", "1.5_", "0x1.00", "1e1.00", "1.e1", "a.bc", "1.2a",
		"\u0661.25", "1.2\x00", "\x001.25", "10000000000.01", "-10000000000.01", "10000000001.00", "92233720368547758.08", "92233720368547758.07", "-92233720368547758.08",
		"184467440737095516.16", "184467440737095517.41", strings.Repeat("9", 5000) + ".00", strings.Repeat("0", 5000) + "1.00",
	} {
		if n, ok := impl.ReadMetres(s); ok || n != 0 {
			t.Errorf("ReadMetres(%q) = %d, %v", s, n, ok)
		}
	}
}
