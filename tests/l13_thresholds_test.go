package tests

import (
	"math"
	"math/big"
	"slices"
	"sync"
	"testing"

	"loop.example/g00915/impl"
)

const (
	mostScans = impl.MaxTrials
	perScan   = 16
	finest    = 1000
)

// allChances returns 0..16.
func allChances() []int64 {
	var list []int64
	for a := range int64(perScan + 1) {
		list = append(list, a)
	}
	return list
}

// notIn returns numbers just below and just above two bounds, and far outside of them.
func notIn(low, high int64) []int64 {
	return []int64{low - 1, high + 1, low - 2, high + 2, -1 << 32, 1 << 32, 1<<32 + 1, math.MinInt64, math.MinInt64 + 1, math.MaxInt64 - 1, math.MaxInt64}
}

// power returns base^n, which is 1 for n = 0.
func power(base, n int64) int64 {
	return new(big.Int).Exp(big.NewInt(base), big.NewInt(n), nil).Int64()
}

// wantedExactly counts the cases of n scans with exactly k detections, which may be in any of the scans.
func wantedExactly(n, a, k int64) int64 {
	places := new(big.Int).Binomial(n, k)
	return places.Int64() * power(a, k) * power(perScan-a, n-k)
}

func wantedTail(n, a, m int64) int64 {
	sum := int64(0)
	for k := m; k <= n; k++ {
		sum += wantedExactly(n, a, k)
	}
	return sum
}

// share returns a number of cases of n scans as a fraction of all of them.
func share(cases, n int64) *big.Rat {
	return big.NewRat(cases, power(perScan, n))
}

func wantedThreshold(n, a, num, den int64) int64 {
	for m := int64(0); ; m++ {
		if share(wantedTail(n, a, m), n).Cmp(big.NewRat(num, den)) <= 0 {
			return m
		}
	}
}

func wantedBestThreshold(n, a, b int64) int64 {
	var differences []int64
	for m := range n + 2 {
		differences = append(differences, wantedTail(n, b, m)-wantedTail(n, a, m))
	}
	return int64(slices.Index(differences, slices.Max(differences)))
}

// wantedTrials returns -1 if no number of scans is enough.
func wantedTrials(a, num, den int64) int64 {
	for n := range int64(mostScans + 1) {
		some := power(perScan, n) - power(perScan-a, n)
		if share(some, n).Cmp(big.NewRat(num, den)) >= 0 {
			return n
		}
	}
	return -1
}

func checkTail(t *testing.T, n, a, m, want int64) {
	t.Helper()
	if got, code := impl.TailCount(n, a, m); got != want || code != impl.ErrNone {
		t.Errorf("TailCount(%d, %d, %d) = %d, %d, want %d", n, a, m, got, code, want)
	}
}

func checkThreshold(t *testing.T, n, a, num, den, want int64) {
	t.Helper()
	if got, code := impl.LeastThreshold(n, a, num, den); got != want || code != impl.ErrNone {
		t.Errorf("LeastThreshold(%d, %d, %d, %d) = %d, %d, want %d", n, a, num, den, got, code, want)
	}
}

func checkBestThreshold(t *testing.T, n, a, b, want int64) {
	t.Helper()
	if got, code := impl.BestThreshold(n, a, b); got != want || code != impl.ErrNone {
		t.Errorf("BestThreshold(%d, %d, %d) = %d, %d, want %d", n, a, b, got, code, want)
	}
}

// checkTrials checks a least number of scans, or that there is none if -1 is wanted.
func checkTrials(t *testing.T, a, num, den, want int64) {
	t.Helper()
	got, code := impl.LeastTrials(a, num, den)
	if want < 0 {
		checkNoNumber(t, "LeastTrials", got, code, impl.ErrNotFound)
	} else if got != want || code != impl.ErrNone {
		t.Errorf("LeastTrials(%d, %d, %d) = %d, %d, want %d", a, num, den, got, code, want)
	}
}

// someFractions returns numerators and denominators: all of the small denominators and of some great
// ones, and the least and greatest numerators of all of them.
func someFractions() [][2]int64 {
	var list [][2]int64
	for den := int64(1); den <= finest; den++ {
		list = append(list, [2]int64{0, den}, [2]int64{1, den}, [2]int64{den - 1, den}, [2]int64{den, den})
	}
	for _, den := range []int64{2, 3, 4, 5, 6, 7, 8, 9, 10, 12, 16, 25, 64, 100, 225, 256, 512, finest - 1, finest} {
		for num := range den + 1 {
			list = append(list, [2]int64{num, den})
		}
	}
	return list
}

// notFractions have a numerator or a denominator just beyond its limit, or far beyond it.
func notFractions() [][2]int64 {
	list := [][2]int64{{0, 0}, {1, 0}, {0, -1}, {-1, -1}, {1, -1}, {1, 1001}, {0, 1001}, {1001, 1001}, {math.MinInt64, math.MinInt64}}
	for _, den := range notIn(1, finest) {
		list = append(list, [2]int64{0, den}, [2]int64{1, den}, [2]int64{den, den})
	}
	for _, den := range []int64{1, 2, 7, finest - 1, finest} {
		for _, num := range notIn(0, den) {
			list = append(list, [2]int64{num, den})
		}
	}
	return list
}

func TestConstantOfThresholds(t *testing.T) {
	if impl.MaxTrials != 12 {
		t.Error("limit of chapter 13")
	}
}

func TestCaseCounts(t *testing.T) {
	for n := range int64(mostScans + 1) {
		got, code := impl.CaseCount(n)
		checkNumber(t, "CaseCount", got, code, power(perScan, n))
	}
	first, code := impl.CaseCount(0)
	checkNumber(t, "CaseCount(0)", first, code, 1)
	last, code := impl.CaseCount(12)
	checkNumber(t, "CaseCount(12)", last, code, 281474976710656)
	for _, n := range notIn(0, mostScans) {
		got, code := impl.CaseCount(n)
		checkNoNumber(t, "CaseCount", got, code, impl.ErrRange)
	}
}

func TestTailCases(t *testing.T) {
	for _, c := range []struct{ n, a, m, want int64 }{
		{2, 8, 0, 256}, {2, 8, 1, 192}, {2, 8, 2, 64}, {2, 8, 3, 0}, {2, 4, 1, 112}, {2, 4, 2, 16}, {2, 12, 1, 240}, {2, 12, 2, 144},
		{0, 0, 0, 1}, {0, 0, 1, 0}, {0, 16, 0, 1}, {0, 16, 1, 0}, {0, 5, 0, 1}, {0, 5, 1, 0},
		{1, 0, 0, 16}, {1, 0, 1, 0}, {1, 0, 2, 0}, {1, 1, 1, 1}, {1, 15, 1, 15}, {1, 16, 0, 16}, {1, 16, 1, 16}, {1, 16, 2, 0},
		{3, 1, 1, 721}, {3, 1, 2, 46}, {3, 1, 3, 1}, {3, 0, 1, 0}, {3, 16, 3, 4096}, {3, 16, 4, 0},
		{12, 0, 0, 281474976710656}, {12, 0, 1, 0}, {12, 0, 13, 0}, {12, 16, 12, 281474976710656}, {12, 16, 13, 0},
		{12, 1, 12, 1}, {12, 1, 1, 281474976710656 - 129746337890625}, {12, 15, 12, 129746337890625}, {12, 15, 1, 281474976710655},
	} {
		checkTail(t, c.n, c.a, c.m, c.want)
	}
}

// TestAllTails compares all tails with the sums over exact numbers of detections.
func TestAllTails(t *testing.T) {
	for n := range int64(mostScans + 1) {
		for _, a := range allChances() {
			for m := range n + 2 {
				checkTail(t, n, a, m, wantedTail(n, a, m))
			}
		}
	}
}

// eachCase calls a function for each of the 16^n cases with its pattern: a scan has a detection in the
// first a of its cases.
func eachCase(n, a int64, visit func(pattern []int64)) {
	pattern := make([]int64, n)
	for number := range power(perScan, n) {
		for i := range pattern {
			pattern[i] = 0
			if number>>(4*i)%perScan < a {
				pattern[i] = 1
			}
		}
		visit(pattern)
	}
}

func detectionsIn(pattern []int64) int64 {
	sum := int64(0)
	for _, bit := range pattern {
		sum += bit
	}
	return sum
}

// TestCasesAreCounted goes through all cases of a few scans one by one.
func TestCasesAreCounted(t *testing.T) {
	for n := range int64(5) {
		for _, a := range allChances() {
			atLeast := make([]int64, n+2)
			eachCase(n, a, func(pattern []int64) {
				for m := range detectionsIn(pattern) + 1 {
					atLeast[m]++
				}
			})
			for m, want := range atLeast {
				checkTail(t, n, a, int64(m), want)
			}
		}
	}
}

// tailOf returns a tail that has to be counted.
func tailOf(t *testing.T, n, a, m int64) int64 {
	t.Helper()
	count, code := impl.TailCount(n, a, m)
	if code != impl.ErrNone {
		t.Fatalf("TailCount(%d, %d, %d): code %d", n, a, m, code)
	}
	return count
}

// TestAllCasesAreCounted is the promise: the counts of exactly 0, 1, ..., n detections add up to all
// cases, and a tail falls with the threshold, but never with the probability.
func TestAllCasesAreCounted(t *testing.T) {
	for n := range int64(mostScans + 1) {
		all, _ := impl.CaseCount(n)
		for _, a := range allChances() {
			sum := int64(0)
			for k := range n + 1 {
				exactly := tailOf(t, n, a, k) - tailOf(t, n, a, k+1)
				if exactly < 0 || exactly == 0 && a > 0 && a < perScan {
					t.Errorf("the tails of %d scans at %d do not fall behind %d: by %d", n, a, k, exactly)
				}
				if want := wantedExactly(n, a, k); exactly != want {
					t.Errorf("%d cases of %d scans at %d have exactly %d detections, want %d", exactly, n, a, k, want)
				}
				sum += exactly
			}
			if sum != all || tailOf(t, n, a, 0) != all || tailOf(t, n, a, n+1) != 0 {
				t.Errorf("%d of %d cases of %d scans at %d are counted", sum, all, n, a)
			}
		}
	}
}

func TestTailsRiseWithChances(t *testing.T) {
	for n := range int64(mostScans + 1) {
		for m := range n + 2 {
			for a := range int64(perScan) {
				less, more := tailOf(t, n, a, m), tailOf(t, n, a+1, m)
				isOpen := m > 0 && m <= n
				if more < less || isOpen && more == less {
					t.Errorf("at least %d of %d: %d cases at %d, but %d at %d", m, n, less, a, more, a+1)
				}
				// The scans without a detection are those with one at the other probability.
				all, _ := impl.CaseCount(n)
				checkTail(t, n, perScan-a, n+1-m, all-less)
			}
		}
	}
}

func TestTailErrors(t *testing.T) {
	checkNoTail := func(n, a, m int64) {
		t.Helper()
		got, code := impl.TailCount(n, a, m)
		checkNoNumber(t, "TailCount", got, code, impl.ErrRange)
	}
	for n := range int64(mostScans + 1) {
		for _, a := range allChances() {
			for _, m := range notIn(0, n+1) {
				checkNoTail(n, a, m)
			}
		}
		for _, a := range notIn(0, perScan) {
			for m := int64(-1); m <= n+2; m++ {
				checkNoTail(n, a, m)
			}
		}
	}
	for _, n := range notIn(0, mostScans) {
		for _, m := range []int64{-1, 0, 1, n - 1, n, n + 1, n + 2} {
			checkNoTail(n, 8, m)
			checkNoTail(n, 17, m)
		}
	}
}

func TestThresholdCases(t *testing.T) {
	for _, c := range []struct{ n, a, num, den, want int64 }{
		{2, 8, 1, 2, 2}, {2, 8, 0, 1, 3}, {2, 8, 1, 1, 0}, {2, 8, 1000, 1000, 0}, {2, 8, 999, 1000, 1}, {2, 8, 0, 1000, 3},
		// The tails are 256, 192, 64 and 0 of 256: exactly these fractions, one case less, and one more.
		{2, 8, 256, 256, 0}, {2, 8, 255, 256, 1}, {2, 8, 193, 256, 1}, {2, 8, 192, 256, 1}, {2, 8, 191, 256, 2}, {2, 8, 3, 4, 1},
		{2, 8, 65, 256, 2}, {2, 8, 64, 256, 2}, {2, 8, 63, 256, 3}, {2, 8, 1, 4, 2}, {2, 8, 1, 256, 3}, {2, 8, 0, 256, 3},
		{0, 5, 0, 1, 1}, {0, 5, 1, 1, 0}, {0, 5, 999, 1000, 1}, {0, 0, 0, 7, 1}, {0, 16, 1, 2, 1}, {0, 16, 7, 7, 0},
		{1, 0, 0, 1, 1}, {1, 0, 1, 2, 1}, {1, 0, 1, 1, 0}, {1, 16, 0, 1, 2}, {1, 16, 999, 1000, 2}, {1, 16, 1, 1, 0},
		{12, 0, 0, 1, 1}, {12, 0, 1, 1, 0}, {12, 16, 0, 1, 13}, {12, 16, 999, 1000, 13}, {12, 16, 1, 1, 0},
		{12, 15, 0, 1, 13}, {12, 15, 1, 1000, 13}, {12, 8, 0, 1, 13}, {12, 8, 1, 1000, 12}, {12, 8, 999, 1000, 2}, {12, 1, 1, 1000, 5},
		// By symmetry half of the cases have at least 6 of 11 detections.
		{11, 8, 1, 2, 6}, {11, 8, 500, 1000, 6}, {11, 8, 499, 1000, 7}, {11, 8, 501, 1000, 6}, {11, 8, 499, 999, 7}, {11, 8, 500, 999, 6},
	} {
		checkThreshold(t, c.n, c.a, c.num, c.den, c.want)
	}
}

// TestExactThresholds has as fractions each tail of one and two scans, with one case more or less.
func TestExactThresholds(t *testing.T) {
	for n := int64(1); n <= 2; n++ {
		all := power(perScan, n)
		for a := int64(1); a < perScan; a++ {
			for m := int64(0); m <= n; m++ {
				tail := wantedTail(n, a, m)
				checkThreshold(t, n, a, tail, all, m)
				checkThreshold(t, n, a, tail-1, all, m+1)
				if tail < all {
					checkThreshold(t, n, a, tail+1, all, wantedThreshold(n, a, tail+1, all))
				}
			}
			checkThreshold(t, n, a, 0, all, n+1)
		}
	}
}

// TestAllThresholds compares thresholds with their definition.
func TestAllThresholds(t *testing.T) {
	fractions := [][2]int64{{0, 1}, {1, 1}, {0, finest}, {1, finest}, {finest - 1, finest}, {finest, finest}, {1, finest - 1}}
	for num := range int64(65) {
		fractions = append(fractions, [2]int64{num, 64}, [2]int64{15 * num, finest - 1}, [2]int64{num, 999})
	}
	for n := range int64(mostScans + 1) {
		for _, a := range allChances() {
			for _, c := range fractions {
				checkThreshold(t, n, a, c[0], c[1], wantedThreshold(n, a, c[0], c[1]))
			}
		}
	}
	for i, c := range someFractions() {
		n, a := int64(i%(mostScans+1)), int64(i%(perScan+1))
		checkThreshold(t, n, a, c[0], c[1], wantedThreshold(n, a, c[0], c[1]))
	}
}

func TestThresholdErrors(t *testing.T) {
	checkNoThreshold := func(n, a, num, den int64) {
		t.Helper()
		got, code := impl.LeastThreshold(n, a, num, den)
		checkNoNumber(t, "LeastThreshold", got, code, impl.ErrRange)
	}
	for _, c := range notFractions() {
		for _, n := range []int64{0, 1, mostScans, -1, mostScans + 1} {
			for _, a := range []int64{0, 8, perScan, -1, perScan + 1} {
				checkNoThreshold(n, a, c[0], c[1])
			}
		}
	}
	for _, n := range notIn(0, mostScans) {
		checkNoThreshold(n, 0, 1, 1)
		checkNoThreshold(n, perScan, 0, finest)
	}
	for _, a := range notIn(0, perScan) {
		checkNoThreshold(0, a, 1, 1)
		checkNoThreshold(mostScans, a, 0, finest)
	}
}

func TestBestThresholdCases(t *testing.T) {
	for _, c := range []struct{ n, a, b, want int64 }{
		// The differences are 0, 128, 128, 0: the greatest one is reached by two thresholds.
		{2, 4, 12, 1},
		// The differences are 0, 256, 256, 0, and for 12 scans they are all cases from 1 to 12.
		{2, 0, 16, 1}, {12, 0, 16, 1},
		// Between 4 and 12 the tails of an odd number of scans have one greatest difference.
		{1, 4, 12, 1}, {3, 4, 12, 2}, {11, 4, 12, 6}, {12, 4, 12, 6},
		{0, 0, 16, 0}, {0, 16, 0, 0}, {0, 3, 3, 0}, {1, 0, 1, 1}, {1, 1, 0, 0}, {1, 15, 16, 1}, {1, 16, 15, 0},
		{2, 8, 8, 0}, {12, 0, 0, 0}, {12, 16, 16, 0}, {12, 16, 0, 0}, {12, 12, 4, 0}, {12, 8, 7, 0}, {7, 9, 2, 0},
		{12, 0, 1, 1}, {12, 15, 16, 12}, {12, 7, 8, 6}, {12, 8, 9, 7},
	} {
		checkBestThreshold(t, c.n, c.a, c.b, c.want)
	}
}

func TestAllBestThresholds(t *testing.T) {
	for n := range int64(mostScans + 1) {
		for _, a := range allChances() {
			for _, b := range allChances() {
				checkBestThreshold(t, n, a, b, wantedBestThreshold(n, a, b))
				if b <= a {
					checkBestThreshold(t, n, a, b, 0)
				}
			}
		}
	}
}

func TestBestThresholdErrors(t *testing.T) {
	checkNoBest := func(n, a, b int64) {
		t.Helper()
		got, code := impl.BestThreshold(n, a, b)
		checkNoNumber(t, "BestThreshold", got, code, impl.ErrRange)
	}
	for _, n := range notIn(0, mostScans) {
		checkNoBest(n, 4, 12)
		checkNoBest(n, 4, 4)
	}
	for _, wrong := range notIn(0, perScan) {
		for _, right := range allChances() {
			for _, n := range []int64{0, 1, mostScans, -1, mostScans + 1} {
				checkNoBest(n, wrong, right)
				checkNoBest(n, right, wrong)
				checkNoBest(n, wrong, wrong)
			}
		}
	}
}

func TestTrialCases(t *testing.T) {
	for _, c := range []struct{ a, num, den, want int64 }{
		{8, 7, 8, 3}, {8, 0, 1, 0}, {0, 0, 2, 0}, {16, 0, 1000, 0}, {0, 1, 2, -1}, {0, 1, 1000, -1}, {0, 1, 1, -1},
		{16, 1, 1, 1}, {16, 1000, 1000, 1}, {16, 1, 1000, 1}, {15, 15, 16, 1}, {15, 1, 1, -1}, {1, 1, 1, -1}, {15, 999, 1000, 3},
		// Exactly 1/2, 3/4 and so on up to 511/512 of the cases, and a little more or less.
		{8, 1, 2, 1}, {8, 500, 999, 2}, {8, 499, 999, 1}, {8, 3, 4, 2}, {8, 751, 1000, 3}, {8, 749, 1000, 2},
		{8, 876, 1000, 4}, {8, 874, 1000, 3}, {8, 255, 256, 8}, {8, 511, 512, 9}, {8, 512, 513, 10}, {8, 510, 511, 9}, {8, 999, 1000, 10},
		// 12 scans at 1 of 16 have a detection in 0.539 of the cases.
		{1, 539, 1000, 12}, {1, 540, 1000, -1}, {1, 508, 1000, 11}, {1, 509, 1000, 12}, {1, 1, 16, 1}, {1, 31, 256, 2}, {1, 32, 256, 3},
		{4, 7, 16, 2}, {4, 438, 1000, 3}, {4, 437, 1000, 2}, {4, 968, 1000, 12}, {4, 969, 1000, -1}, {7, 998, 1000, 11}, {7, 999, 1000, -1},
	} {
		checkTrials(t, c.a, c.num, c.den, c.want)
	}
}

// TestAllTrials compares least numbers of scans with their definition; they do not rise with the
// probability.
func TestAllTrials(t *testing.T) {
	for _, c := range someFractions() {
		before := int64(-1)
		for _, a := range allChances() {
			want := wantedTrials(a, c[0], c[1])
			checkTrials(t, a, c[0], c[1], want)
			if before >= 0 && (want < 0 || want > before) {
				t.Errorf("%d scans at %d, but %d at %d, for %v", before, a-1, want, a, c)
			}
			before = want
		}
	}
}

func TestTrialErrors(t *testing.T) {
	checkNoTrials := func(a, num, den int64) {
		t.Helper()
		got, code := impl.LeastTrials(a, num, den)
		checkNoNumber(t, "LeastTrials", got, code, impl.ErrRange)
	}
	for _, a := range notIn(0, perScan) {
		checkNoTrials(a, 0, 1)
		checkNoTrials(a, 1, 1)
		checkNoTrials(a, 1, finest)
	}
	// At the probability 0 no number of scans would be enough for more than nothing, which comes behind.
	for _, c := range notFractions() {
		for _, a := range []int64{0, 8, perScan, -1, perScan + 1} {
			checkNoTrials(a, c[0], c[1])
		}
	}
}

// rule is what confirms a pattern: m of w.
type rule struct {
	m, w int64
}

func allRules() []rule {
	var list []rule
	for w := int64(1); w <= mostScans; w++ {
		for m := int64(1); m <= w; m++ {
			list = append(list, rule{m, w})
		}
	}
	return list
}

// notRules have an m or a w just beyond its limits, or far beyond them.
func notRules() []rule {
	var list []rule
	for _, w := range notIn(1, mostScans) {
		list = append(list, rule{1, w}, rule{0, w}, rule{w, w}, rule{w + 1, w}, rule{2, w})
	}
	for w := int64(1); w <= mostScans; w++ {
		for _, m := range notIn(1, w) {
			list = append(list, rule{m, w})
		}
	}
	return append(list, rule{0, 0}, rule{13, 13}, rule{12, 11}, rule{13, 12}, rule{0, 12}, rule{2, 1})
}

// confirms looks for w scans that follow one another, or all scans of a shorter pattern, of which at
// least m have a detection.
func (r rule) confirms(pattern []int64) bool {
	length := min(len(pattern), int(r.w))
	for start := 0; start+length <= len(pattern); start++ {
		if detectionsIn(pattern[start:start+length]) >= r.m {
			return true
		}
	}
	return false
}

// scanOf returns the last scan of the shortest beginning of a pattern that is confirmed, or -1 if there
// is none.
func (r rule) scanOf(pattern []int64) int64 {
	for i := range pattern {
		if r.confirms(pattern[:i+1]) {
			return int64(i)
		}
	}
	return -1
}

// checkConfirmed checks the scan of a pattern, or that it is not confirmed if -1 is wanted.
func checkConfirmed(t *testing.T, r rule, pattern []int64, want int64) {
	t.Helper()
	got, code := impl.ConfirmScan(pattern, r.m, r.w)
	if want < 0 {
		checkNoNumber(t, "ConfirmScan", got, code, impl.ErrNotFound)
	} else if got != want || code != impl.ErrNone {
		t.Errorf("ConfirmScan(%v, %d, %d) = %d, %d, want %d", pattern, r.m, r.w, got, code, want)
	}
}

func checkConfirmCount(t *testing.T, n, a int64, r rule, want int64) {
	t.Helper()
	if got, code := impl.ConfirmCount(n, a, r.m, r.w); got != want || code != impl.ErrNone {
		t.Errorf("ConfirmCount(%d, %d, %d, %d) = %d, %d, want %d", n, a, r.m, r.w, got, code, want)
	}
}

func checkConfirmPatterns(t *testing.T, n int64, r rule, want int64) {
	t.Helper()
	if got, code := impl.ConfirmPatterns(n, r.m, r.w); got != want || code != impl.ErrNone {
		t.Errorf("ConfirmPatterns(%d, %d, %d) = %d, %d, want %d", n, r.m, r.w, got, code, want)
	}
}

// allPatterns returns all patterns of n bits.
func allPatterns(n int64) [][]int64 {
	list := [][]int64{{}}
	for range n {
		var longer [][]int64
		for _, pattern := range list {
			longer = append(longer, append(slices.Clone(pattern), 0), append(slices.Clone(pattern), 1))
		}
		list = longer
	}
	return list
}

// onesAt returns a pattern of n bits with detections in some scans.
func onesAt(n int, scans ...int) []int64 {
	pattern := make([]int64, n)
	for _, i := range scans {
		pattern[i] = 1
	}
	return pattern
}

func TestConfirmCases(t *testing.T) {
	for _, c := range []struct {
		rule    rule
		pattern []int64
		want    int64
	}{
		{rule{2, 3}, []int64{1, 0, 0, 1, 0, 1}, 5},
		{rule{2, 3}, []int64{1, 0, 0, 1}, -1}, // The detections lie farther apart than 3 scans.
		{rule{2, 3}, []int64{1, 0, 1}, 2},
		{rule{2, 3}, []int64{1, 1}, 1},
		{rule{2, 3}, []int64{1, 1, 1}, 1},
		{rule{2, 2}, []int64{1, 0, 1, 0, 1, 0, 1}, -1},
		{rule{2, 2}, []int64{1, 0, 1, 0, 1, 1, 1}, 5},
		{rule{1, 1}, nil, -1},
		{rule{1, 12}, []int64{}, -1},
		{rule{1, 1}, []int64{0}, -1},
		{rule{1, 1}, []int64{1}, 0},
		{rule{1, 12}, []int64{1}, 0},
		{rule{2, 12}, []int64{1}, -1},
		{rule{2, 2}, []int64{1}, -1},
		{rule{3, 12}, []int64{1, 1, 1}, 2},
		{rule{4, 12}, []int64{1, 1, 1}, -1},
		{rule{3, 12}, []int64{0, 1, 1, 0, 1}, 4},
		{rule{12, 12}, repeated(11, 1), -1},
		{rule{12, 12}, repeated(12, 1), 11},
		{rule{12, 12}, repeated(13, 1), 11},
		{rule{12, 12}, append([]int64{0}, repeated(12, 1)...), 12},
		{rule{2, 12}, onesAt(12, 0, 11), 11},
		{rule{2, 12}, onesAt(13, 1, 12), 12},
		{rule{2, 12}, onesAt(13, 0, 12), -1},
		{rule{2, 12}, onesAt(200, 0, 12, 24, 199), -1},
		{rule{1, 12}, repeated(200, 0), -1},
		{rule{1, 1}, onesAt(200, 199), 199},
		{rule{12, 12}, repeated(200, 1), 11},
		{rule{11, 12}, repeated(200, 1, 1, 1, 1, 0), -1},
		{rule{10, 12}, repeated(200, 1, 1, 1, 1, 0), 11},
		{rule{2, 2}, onesAt(200, 0, 2, 4, 198, 199), 199},
		{rule{3, 4}, onesAt(9, 0, 1, 4, 5, 7), 7},
		{rule{3, 4}, onesAt(9, 0, 1, 4, 5, 8), -1},
	} {
		checkConfirmed(t, c.rule, c.pattern, c.want)
	}
}

// TestAllPatterns compares the scans of all patterns of up to 11 bits with the definition; a confirmed
// pattern stays confirmed with a further bit, in the same scan.
func TestAllPatterns(t *testing.T) {
	for n := range int64(mostScans) {
		for _, pattern := range allPatterns(n) {
			for _, r := range allRules() {
				want := r.scanOf(pattern)
				checkConfirmed(t, r, pattern, want)
				if want >= 0 {
					checkConfirmed(t, r, append(slices.Clone(pattern), 0), want)
					checkConfirmed(t, r, append(slices.Clone(pattern), 1), want)
				}
			}
		}
	}
}

// TestLongPatterns has patterns of up to 200 bits, with many and with few detections.
func TestLongPatterns(t *testing.T) {
	next := scattered(13)
	for round := range int64(200) {
		pattern := make([]int64, impl.MaxList-round%7*11)
		seldom := round % 9
		for i := range pattern {
			if next(seldom) == 0 {
				pattern[i] = 1
			}
		}
		for _, r := range allRules() {
			checkConfirmed(t, r, pattern, r.scanOf(pattern))
		}
	}
}

func TestConfirmErrors(t *testing.T) {
	checkNoScan := func(pattern []int64, r rule) {
		t.Helper()
		got, code := impl.ConfirmScan(pattern, r.m, r.w)
		checkNoNumber(t, "ConfirmScan", got, code, impl.ErrRange)
	}
	for _, pattern := range [][]int64{repeated(201, 0), repeated(201, 1), repeated(5000, 0, 1), {-1}, {2}, {1, 2}, {1, -1}, {2, 1}, {0, 0, -1}, {0, 2, 0}, repeated(201, 2)} {
		checkNoScan(pattern, rule{1, 1})
		checkNoScan(pattern, rule{1, 12})
		checkNoScan(pattern, rule{12, 12})
		checkNoScan(pattern, rule{0, 1})
	}
	// The whole pattern counts, also what lies behind the scan in which it is confirmed.
	for _, wrong := range notIn(0, 1) {
		for i := range impl.MaxList {
			checkNoScan(withSample(repeated(impl.MaxList, 1), i, wrong), rule{1, 1})
			checkNoScan(withSample(repeated(impl.MaxList, 0), i, wrong), rule{2, 3})
		}
	}
	for _, r := range notRules() {
		for _, pattern := range [][]int64{nil, {}, {0}, {1}, {1, 1, 1}, repeated(200, 0), repeated(200, 1), repeated(201, 1), {2}} {
			checkNoScan(pattern, r)
		}
	}
}

func TestConfirmCountCases(t *testing.T) {
	for _, c := range []struct {
		n, a            int64
		rule            rule
		cases, patterns int64
	}{
		{3, 4, rule{2, 2}, 448, 3}, // {1, 1, 0}, {0, 1, 1} and {1, 1, 1}
		{3, 4, rule{2, 3}, 640, 4},
		{3, 4, rule{1, 1}, 4096 - 1728, 7},
		{3, 4, rule{3, 3}, 64, 1},
		{0, 8, rule{1, 1}, 0, 0},
		{0, 16, rule{12, 12}, 0, 0},
		{1, 5, rule{1, 1}, 5, 1},
		{1, 5, rule{1, 12}, 5, 1},
		{1, 5, rule{2, 2}, 0, 0},
		{2, 16, rule{2, 12}, 256, 1},
		{2, 0, rule{1, 12}, 0, 3},
		{12, 16, rule{12, 12}, 281474976710656, 1},
		{12, 16, rule{1, 1}, 281474976710656, 4095},
		{12, 0, rule{1, 1}, 0, 4095},
		{12, 1, rule{12, 12}, 1, 1},
		{12, 15, rule{1, 12}, 281474976710655, 4095},
		{12, 8, rule{2, 2}, 3719 * 68719476736, 3719}, // all but the 377 patterns without two detections in a row
		{11, 8, rule{12, 12}, 0, 0},
	} {
		checkConfirmCount(t, c.n, c.a, c.rule, c.cases)
		checkConfirmPatterns(t, c.n, c.rule, c.patterns)
	}
}

// TestAllConfirmCounts compares counts with the sums over all patterns; with equal chances each pattern
// has as many cases.
func TestAllConfirmCounts(t *testing.T) {
	for n := range int64(mostScans + 1) {
		patterns := allPatterns(n)
		for _, r := range allRules() {
			confirmed := make([]int64, n+1) // by the number of detections
			sum := int64(0)
			for _, pattern := range patterns {
				if r.confirms(pattern) {
					confirmed[detectionsIn(pattern)]++
					sum++
				}
			}
			checkConfirmPatterns(t, n, r, sum)
			checkConfirmCount(t, n, 8, r, sum*power(8, n))
			for _, a := range allChances() {
				want := int64(0)
				for k, count := range confirmed {
					want += count * power(a, int64(k)) * power(perScan-a, n-int64(k))
				}
				checkConfirmCount(t, n, a, r, want)
			}
		}
	}
}

// TestConfirmedCases goes through all cases of a few scans one by one.
func TestConfirmedCases(t *testing.T) {
	for n := range int64(4) {
		for _, a := range allChances() {
			for _, r := range []rule{{1, 1}, {1, 2}, {2, 2}, {1, 3}, {2, 3}, {3, 3}, {2, 4}, {4, 4}, {3, 12}, {12, 12}} {
				want := int64(0)
				eachCase(n, a, func(pattern []int64) {
					if r.confirms(pattern) {
						want++
					}
				})
				checkConfirmCount(t, n, a, r, want)
			}
		}
	}
}

// TestConfirmedCasesAndTails checks that as many cases are confirmed as have m detections if no window
// is longer than all scans, and never more.
func TestConfirmedCasesAndTails(t *testing.T) {
	for n := range int64(mostScans + 1) {
		for _, a := range []int64{0, 1, 7, 8, 15, perScan} {
			for _, r := range allRules() {
				tail := int64(0)
				if r.m <= n {
					tail = tailOf(t, n, a, r.m)
				}
				if r.w >= n || r.m == 1 {
					checkConfirmCount(t, n, a, r, tail)
				} else if got, _ := impl.ConfirmCount(n, a, r.m, r.w); got > tail {
					t.Errorf("ConfirmCount(%d, %d, %v) = %d, more than %d", n, a, r, got, tail)
				}
			}
		}
	}
}

// TestConfirmedCasesStay checks that further scans take no confirmed case and no confirmed pattern
// away.
func TestConfirmedCasesStay(t *testing.T) {
	for _, r := range allRules() {
		for n := range int64(mostScans) {
			patterns, _ := impl.ConfirmPatterns(n, r.m, r.w)
			if more, _ := impl.ConfirmPatterns(n+1, r.m, r.w); more < 2*patterns {
				t.Errorf("%v confirms %d patterns of %d bits, but %d of one more", r, patterns, n, more)
			}
			cases, _ := impl.ConfirmCount(n, 5, r.m, r.w)
			if more, _ := impl.ConfirmCount(n+1, 5, r.m, r.w); more < perScan*cases {
				t.Errorf("%v confirms %d cases of %d scans, but %d of one more", r, cases, n, more)
			}
		}
	}
}

func TestConfirmCountErrors(t *testing.T) {
	checkNoCount := func(n, a int64, r rule) {
		t.Helper()
		got, code := impl.ConfirmCount(n, a, r.m, r.w)
		checkNoNumber(t, "ConfirmCount", got, code, impl.ErrRange)
	}
	checkNoPatterns := func(n int64, r rule) {
		t.Helper()
		got, code := impl.ConfirmPatterns(n, r.m, r.w)
		checkNoNumber(t, "ConfirmPatterns", got, code, impl.ErrRange)
	}
	for _, n := range notIn(0, mostScans) {
		for _, r := range []rule{{1, 1}, {1, 12}, {12, 12}} {
			checkNoCount(n, 8, r)
			checkNoPatterns(n, r)
		}
	}
	for _, a := range notIn(0, perScan) {
		for _, n := range []int64{0, 1, mostScans} {
			checkNoCount(n, a, rule{1, 1})
			checkNoCount(n, a, rule{12, 12})
		}
	}
	for _, r := range notRules() {
		for _, n := range []int64{0, 1, mostScans, -1, mostScans + 1} {
			checkNoCount(n, 0, r)
			checkNoCount(n, perScan, r)
			checkNoPatterns(n, r)
		}
	}
}

// TestThresholdsAtTheSameTime checks that calls keep nothing that another one sees.
func TestThresholdsAtTheSameTime(t *testing.T) {
	var group sync.WaitGroup
	for i := range int64(40) {
		group.Go(func() {
			n, a, b := (i*5)%(mostScans+1), i%(perScan+1), (i*7)%(perScan+1)
			for m := range n + 2 {
				checkTail(t, n, a, m, wantedTail(n, a, m))
			}
			checkBestThreshold(t, n, a, b, wantedBestThreshold(n, a, b))
			checkThreshold(t, n, a, i, 40, wantedThreshold(n, a, i, 40))
			checkTrials(t, a, i, 40, wantedTrials(a, i, 40))
		})
	}
	group.Wait()
}

func TestPatternsStayAsTheyAre(t *testing.T) {
	whole := []int64{1, 0, 1, 1, 0, 7, 7}
	pattern := whole[:5]
	for _, r := range append(allRules(), notRules()...) {
		impl.ConfirmScan(pattern, r.m, r.w)
		impl.ConfirmScan(whole, r.m, r.w)
	}
	if !slices.Equal(whole, []int64{1, 0, 1, 1, 0, 7, 7}) {
		t.Errorf("the pattern has become %v", whole)
	}
}
