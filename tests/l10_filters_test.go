package tests

import (
	"math"
	"slices"
	"sync"
	"testing"

	"loop.example/g00915/impl"
)

const (
	strongest = impl.MaxValue
	farthest  = impl.MaxSignal
)

// wantedMatches adds the product of each sample of the signal and each of the pulse to the match to
// which it belongs, if that exists.
func wantedMatches(signal, pulse []int64) []int64 {
	list := make([]int64, len(signal)-len(pulse)+1)
	for i, x := range signal {
		for j, y := range pulse {
			if k := i - j; k >= 0 && k < len(list) {
				list[k] += x * y
			}
		}
	}
	return list
}

func wantedPeak(trace []int64) int64 {
	peak := len(trace) - 1
	for k := peak; k >= 0; k-- {
		if max(trace[k], -trace[k]) >= max(trace[peak], -trace[peak]) {
			peak = k
		}
	}
	return int64(peak)
}

// wantedPeaks looks at the whole trace again for each index that is chosen.
func wantedPeaks(trace []int64, threshold, guard int64) []int64 {
	var chosen []int64
	for {
		best, size := int64(-1), int64(0)
		for k, x := range trace {
			isNear := slices.ContainsFunc(chosen, func(c int64) bool { return max(c-int64(k), int64(k)-c) <= guard })
			if x = max(x, -x); !isNear && x >= threshold && x > size {
				best, size = int64(k), x
			}
		}
		if best < 0 {
			slices.Sort(chosen)
			return chosen
		}
		chosen = append(chosen, best)
	}
}

func wantedWeight(pulse []int64) int64 {
	weight := int64(0)
	for _, sample := range pulse {
		weight += max(sample, -sample)
	}
	return weight
}

func wantedEnergy(pulse []int64) int64 {
	energy := int64(0)
	for _, sample := range pulse {
		energy += sample * sample
	}
	return energy
}

// clearance returns by how much an echo is clear; it is not with 0 or less.
func clearance(pulse []int64, gain, noise int64) int64 {
	return max(gain, -gain)*(wantedEnergy(pulse)-wantedSidelobe(pulse)) - 2*noise*wantedWeight(pulse)
}

// wantedGain tries all gains; the even one of two with the same distance is the nearest one.
func wantedGain(match, energy int64) int64 {
	nearest := int64(0)
	for gain := int64(-loudest); gain <= loudest; gain++ {
		difference, least := match-gain*energy, match-nearest*energy
		difference, least = max(difference, -difference), max(least, -least)
		if difference < least || difference == least && gain%2 == 0 {
			nearest = gain
		}
	}
	return nearest
}

// search is the arguments of FindEchoes.
type search struct {
	signal, pulse   []int64
	threshold, most int64
}

// wanted returns delays and gains and true, or false if something that is not a signal remains.
func (s search) wanted() ([]int64, []int64, bool) {
	rest := slices.Clone(s.signal)
	var delays, gains []int64
	for len(delays) < int(s.most) {
		matches := wantedMatches(rest, s.pulse)
		delay := wantedPeak(matches)
		match := matches[delay]
		if max(match, -match) < s.threshold {
			break
		}
		gain := wantedGain(match, wantedEnergy(s.pulse))
		if gain == 0 {
			break
		}
		delays, gains = append(delays, delay), append(gains, gain)
		for i, sample := range s.pulse {
			rest[int(delay)+i] -= gain * sample
		}
		if slices.Max(rest) > loudest || slices.Min(rest) < -loudest {
			return nil, nil, false
		}
	}
	return delays, gains, true
}

func checkFound(t *testing.T, s search, delays, gains []int64) {
	t.Helper()
	d, g, code := impl.FindEchoes(s.signal, s.pulse, s.threshold, s.most)
	if !slices.Equal(d, delays) || !slices.Equal(g, gains) || code != impl.ErrNone {
		t.Errorf("FindEchoes(%v) = %v, %v, %d, want %v, %v", s, d, g, code, delays, gains)
	}
}

func checkNotFound(t *testing.T, s search, want int64) {
	t.Helper()
	d, g, code := impl.FindEchoes(s.signal, s.pulse, s.threshold, s.most)
	if len(d) != 0 || len(g) != 0 || code != want {
		t.Errorf("FindEchoes(%v) = %v, %v, %d, want code %d", s, d, g, code, want)
	}
}

// checkSearch compares a search with the wanted one and reports whether its echoes are told.
func checkSearch(t *testing.T, s search) bool {
	t.Helper()
	delays, gains, ok := s.wanted()
	if !ok {
		checkNotFound(t, s, impl.ErrLimit)
		return false
	}
	checkFound(t, s, delays, gains)
	return true
}

func checkMatch(t *testing.T, signal, pulse, want []int64) {
	t.Helper()
	got, code := impl.MatchSignal(signal, pulse)
	checkList(t, "MatchSignal", got, code, want)
	delay, code := impl.DelayOf(signal, pulse)
	checkNumber(t, "DelayOf", delay, code, wantedPeak(want))
}

// checkNoMatch checks all functions that match a signal with a pulse.
func checkNoMatch(t *testing.T, signal, pulse []int64, want int64) {
	t.Helper()
	list, code := impl.MatchSignal(signal, pulse)
	checkNoList(t, "MatchSignal", list, code, want)
	delay, code := impl.DelayOf(signal, pulse)
	checkNoNumber(t, "DelayOf", delay, code, want)
	for _, threshold := range []int64{1, strongest, 0, strongest + 1, math.MinInt64} {
		for _, most := range []int64{0, impl.MaxEchoes, -1, impl.MaxEchoes + 1} {
			checkNotFound(t, search{signal, pulse, threshold, most}, want)
		}
	}
}

func checkPeaks(t *testing.T, trace []int64, threshold, guard int64, want []int64) {
	t.Helper()
	got, code := impl.PeaksOver(trace, threshold, guard)
	if !slices.Equal(got, want) || code != impl.ErrNone {
		t.Errorf("PeaksOver(%v, %d, %d) = %v, %d, want %v", trace, threshold, guard, got, code, want)
	}
}

func checkClear(t *testing.T, pulse []int64, gain, noise int64, want bool) {
	t.Helper()
	got, code := impl.IsClearEcho(pulse, gain, noise)
	if got != want || code != impl.ErrNone {
		t.Errorf("IsClearEcho(%v, %d, %d) = %v, %d, want %v", pulse, gain, noise, got, code, want)
	}
}

// checkLeastGain checks the least gain, or that there is none if it is 0.
func checkLeastGain(t *testing.T, pulse []int64, noise, want int64) {
	t.Helper()
	code := int64(impl.ErrNone)
	if want == 0 {
		code = impl.ErrNotFound
	}
	if got, told := impl.LeastGain(pulse, noise); got != want || told != code {
		t.Errorf("LeastGain(%v, %d) = %d, %d, want %d, %d", pulse, noise, got, told, want, code)
	}
}

// somePulses returns pulses of up to 3 small samples, codes, and long and loud ones.
func somePulses() [][]int64 {
	list := [][]int64{
		{1, 1, 1, -1}, {1, 1, 1, -1, 1}, {-1, -1, -1, 1, 1, -1, 1}, {1, 1, 1, 1, 1, -1, -1, 1, 1, -1, 1, -1, 1}, {3, -5, 2, 7}, {0, 0, 4, 0}, {5, 0, 0, 0, -9},
		{loudest}, {-loudest}, {loudest, loudest, -loudest}, repeated(longest, 0), repeated(longest, 1), repeated(longest, loudest), repeated(longest, -loudest), repeated(longest, loudest, -loudest),
		uneven(9, 4), uneven(40, 5), uneven(longest, 6),
	}
	for _, pulse := range smallSignals() {
		if len(pulse) > 0 && len(pulse) <= 3 {
			list = append(list, pulse)
		}
	}
	return list
}

// notTraces are too long or have elements just beyond their limits or far beyond them.
func notTraces() [][]int64 {
	return [][]int64{
		repeated(longest+1, 0), repeated(longest+1, 1), repeated(longest+1, strongest), repeated(10000, 5),
		{strongest + 1}, {-strongest - 1}, {0, 0, strongest + 1}, {-strongest - 1, 0, 0}, {1, strongest + 1, 1}, {strongest + 1, -strongest - 1},
		withSample(repeated(longest, strongest), 0, strongest+1), withSample(repeated(longest, -strongest), longest-1, -strongest-1),
		{math.MaxInt64}, {math.MinInt64}, {0, math.MinInt64, 0}, {math.MaxInt64, math.MinInt64 + 1}, withSample(repeated(longest+1, 0), longest, math.MinInt64),
	}
}

func TestConstantsOfFilters(t *testing.T) {
	if impl.MaxEchoes != 10 {
		t.Error("limits of chapter 10")
	}
}

func TestMatchCases(t *testing.T) {
	for _, c := range []struct{ signal, pulse, want []int64 }{
		{[]int64{0, 2, 2, -2, 1}, []int64{1, 1, -1}, []int64{0, 6, -1}},
		{[]int64{7}, []int64{-3}, []int64{-21}},
		{[]int64{7}, []int64{0}, []int64{0}},
		{[]int64{3, -4, 5}, []int64{1}, []int64{3, -4, 5}}, // a pulse of one sample
		{[]int64{3, -4, 5}, []int64{-2}, []int64{-6, 8, -10}},
		{[]int64{3, -4, 5}, []int64{1, 10, 100}, []int64{463}}, // one as long as the signal
		{[]int64{1, 10, 100, 1000}, []int64{1, 2}, []int64{21, 210, 2100}},
		{[]int64{1, 10, 100, 1000}, []int64{2, 1}, []int64{12, 120, 1200}},
		{[]int64{0, 0, 0}, []int64{1, 1}, []int64{0, 0}},
		{repeated(longest, loudest), []int64{loudest}, repeated(longest, loudest*loudest)},
		{repeated(longest, loudest), repeated(longest, -loudest), []int64{-longest * loudest * loudest}},
		{repeated(longest, loudest, -loudest), repeated(longest-1, loudest, -loudest), []int64{399000000, -399000000}},
	} {
		checkMatch(t, c.signal, c.pulse, c.want)
	}
}

func TestAllMatches(t *testing.T) {
	signals := append(longSignals(), []int64{1, -2, 0, 2}, []int64{2, 2, -1, 0, 1}, []int64{-1, 1, -1, 1, -1, 1})
	for _, signal := range signals {
		for _, pulse := range somePulses() {
			if len(pulse) > len(signal) {
				checkNoMatch(t, signal, pulse, impl.ErrState)
			} else {
				checkMatch(t, signal, pulse, wantedMatches(signal, pulse))
			}
		}
	}
}

// TestMatchLengths has signals and pulses of all pairs of lengths up to 5 and near the greatest one.
func TestMatchLengths(t *testing.T) {
	lengths := []int{0, 1, 2, 3, 4, 5, longest - 2, longest - 1, longest}
	for _, n := range lengths {
		signal := uneven(n, 3)
		for _, m := range lengths {
			pulse := uneven(m, 8)
			if m == 0 || m > n {
				checkNoMatch(t, signal, pulse, impl.ErrState)
				continue
			}
			got, code := impl.MatchSignal(signal, pulse)
			if len(got) != n-m+1 {
				t.Errorf("%d matches of %d and %d samples", len(got), n, m)
			}
			checkList(t, "MatchSignal", got, code, wantedMatches(signal, pulse))
		}
	}
}

// TestMatchErrors has the errors in their order: what is not a signal comes before an empty or too
// long pulse, and that before numbers out of range.
func TestMatchErrors(t *testing.T) {
	for _, list := range notSignals() {
		for _, other := range [][]int64{nil, {1}, {1, -1}, repeated(longest, 1), list} {
			checkNoMatch(t, list, other, impl.ErrInvalid)
			checkNoMatch(t, other, list, impl.ErrInvalid)
		}
	}
	checkNoMatch(t, nil, nil, impl.ErrState)
	checkNoMatch(t, []int64{}, []int64{}, impl.ErrState)
	checkNoMatch(t, nil, []int64{1}, impl.ErrState)
	checkNoMatch(t, []int64{1}, nil, impl.ErrState)
	checkNoMatch(t, []int64{1}, []int64{1, 1}, impl.ErrState)
	checkNoMatch(t, []int64{1}, []int64{0, 0}, impl.ErrState)
	checkNoMatch(t, repeated(longest, 1), nil, impl.ErrState)
	checkNoMatch(t, repeated(longest-1, 1), repeated(longest, 1), impl.ErrState)
}

func TestPeakCases(t *testing.T) {
	for _, c := range []struct {
		trace []int64
		want  int64
	}{
		{[]int64{0}, 0}, {[]int64{-1}, 0}, {[]int64{strongest}, 0}, {[]int64{-strongest}, 0},
		{[]int64{1, 2, 3}, 2}, {[]int64{3, 2, 1}, 0}, {[]int64{1, 3, 2}, 1}, {[]int64{1, -3, 2}, 1},
		{[]int64{-1, -2, -3, -2}, 2}, {[]int64{0, -1, 0}, 1},
		// Of several elements with the same greatest absolute value the first one counts, whatever its sign.
		{[]int64{1, -5, 5}, 1}, {[]int64{1, 5, -5}, 1}, {[]int64{-5, 1, 5, -5, 5}, 0}, {[]int64{0, 0, 0}, 0}, {[]int64{2, -2, 7, -7}, 2},
		{[]int64{strongest - 1, strongest, -strongest}, 1}, {[]int64{strongest - 1, -strongest, strongest}, 1}, {[]int64{0, strongest, -strongest + 1}, 1},
		{repeated(longest, 0), 0}, {repeated(longest, -strongest), 0}, {withSample(repeated(longest, 0), longest-1, -1), longest - 1},
		{withSample(repeated(longest, strongest-1), longest-1, -strongest), longest - 1}, {withSample(repeated(longest, -6, 6), 251, 7), 251},
	} {
		got, code := impl.PeakOf(c.trace)
		if got != c.want || code != impl.ErrNone {
			t.Errorf("PeakOf(%v) = %d, %d, want %d", c.trace, got, code, c.want)
		}
	}
}

func TestAllPeaks(t *testing.T) {
	for _, trace := range append(smallSignals(), longSignals()...) {
		if len(trace) == 0 {
			continue
		}
		got, code := impl.PeakOf(trace)
		checkNumber(t, "PeakOf", got, code, wantedPeak(trace))
	}
}

func TestPeakErrors(t *testing.T) {
	for _, trace := range [][]int64{nil, {}} {
		got, code := impl.PeakOf(trace)
		checkNoNumber(t, "PeakOf", got, code, impl.ErrNotFound)
		checkPeaks(t, trace, 1, 0, nil)
	}
	for _, trace := range notTraces() {
		got, code := impl.PeakOf(trace)
		checkNoNumber(t, "PeakOf", got, code, impl.ErrInvalid)
		for _, threshold := range []int64{1, strongest, 0, -1, strongest + 1, math.MinInt64} {
			for _, guard := range []int64{0, farthest, -1, farthest + 1} {
				list, code := impl.PeaksOver(trace, threshold, guard)
				checkNoList(t, "PeaksOver", list, code, impl.ErrInvalid)
			}
		}
	}
}

func TestPeaksOverErrors(t *testing.T) {
	for _, trace := range [][]int64{nil, {0}, {5, -5}, repeated(longest, strongest)} {
		for _, threshold := range []int64{0, -1, -strongest, strongest + 1, math.MaxInt64, math.MinInt64} {
			for _, guard := range []int64{0, 5, farthest, -1, farthest + 1} {
				list, code := impl.PeaksOver(trace, threshold, guard)
				checkNoList(t, "PeaksOver", list, code, impl.ErrRange)
			}
		}
		for _, guard := range []int64{-1, -farthest, farthest + 1, 1 << 32, math.MaxInt64, math.MinInt64} {
			for _, threshold := range []int64{1, strongest} {
				list, code := impl.PeaksOver(trace, threshold, guard)
				checkNoList(t, "PeaksOver", list, code, impl.ErrRange)
			}
		}
	}
}

func TestPeaksOverCases(t *testing.T) {
	for _, c := range []struct {
		trace            []int64
		threshold, guard int64
		want             []int64
	}{
		{[]int64{4, 9, 8, 0, 4, 4}, 4, 1, []int64{1, 4}},
		{[]int64{4, 9, 8, 0, 4, 4}, 4, 0, []int64{0, 1, 2, 4, 5}},
		{[]int64{0}, 1, 0, nil}, {[]int64{1}, 1, 0, []int64{0}}, {[]int64{-1}, 1, farthest, []int64{0}}, {[]int64{1}, 2, 0, nil}, {[]int64{-1}, 2, 0, nil},
		// The threshold itself is reached, also by negative elements.
		{[]int64{6, -7, 8, -8, 7, -6}, 7, 0, []int64{1, 2, 3, 4}},
		{[]int64{strongest, strongest - 1, -strongest, 1 - strongest}, strongest, 0, []int64{0, 2}},
		{[]int64{1, 0, -1}, 1, 0, []int64{0, 2}},
		// Indices that differ by exactly guard, and by one more.
		{[]int64{9, 0, 0, 5, 4}, 1, 3, []int64{0, 4}}, {[]int64{9, 0, 0, 5, 4}, 1, 2, []int64{0, 3}}, {[]int64{4, 5, 0, 0, 9}, 1, 3, []int64{0, 4}}, {[]int64{4, 5, 0, 0, 9}, 1, 4, []int64{4}},
		// Of the same absolute values the one with the least index is chosen first.
		{[]int64{5, -5, 5, -5}, 1, 1, []int64{0, 2}}, {[]int64{-5, 5, -5, 5}, 1, 2, []int64{0, 3}}, {[]int64{0, 5, -5, 5, 0}, 1, 1, []int64{1, 3}}, {[]int64{1, 5, 5, 5, 1}, 1, 2, []int64{1, 4}},
		// An element that a nearer, chosen one keeps away, and one that is chosen because the one that would keep it away is not.
		{[]int64{9, 0, 8, 7}, 1, 2, []int64{0, 3}}, {[]int64{9, 8, 7, 6, 5}, 1, 1, []int64{0, 2, 4}}, {[]int64{5, 6, 7, 8, 9}, 1, 1, []int64{0, 2, 4}}, {[]int64{5, 6, 7, 8}, 1, 1, []int64{1, 3}},
		{[]int64{3, -9, 8, -7, 6, 10, 2}, 1, 2, []int64{1, 5}}, {[]int64{7, 8, 9, 8, 7}, 1, 1, []int64{0, 2, 4}}, {[]int64{7, 8, 9, 8, 7}, 1, 2, []int64{2}},
		{[]int64{1, 2, 3, 2, 1}, 2, 1, []int64{2}}, {[]int64{1, 2, 3, 2, 1}, 2, 0, []int64{1, 2, 3}},
		// The greatest guard leaves only the peak.
		{repeated(longest, 3, -3), 1, farthest, []int64{0}}, {withSample(repeated(longest, 3), longest-1, -4), 1, farthest, []int64{longest - 1}},
		{repeated(longest, 3), 1, farthest - 1, []int64{0}}, {repeated(longest, 3), 1, farthest - 2, []int64{0, longest - 1}},
		{withSample(withSample(repeated(longest, 0), 0, 2), longest-1, -1), 1, farthest - 2, []int64{0, longest - 1}},
		{withSample(withSample(repeated(longest, 0), 0, 1), longest-1, -2), 1, farthest - 1, []int64{longest - 1}},
		{repeated(longest, 1, 2, 3, -4), 4, 3, repeatedSteps(3, longest, 4)}, {repeated(longest, strongest), strongest, 0, repeatedSteps(0, longest, 1)}, {repeated(longest, 0), 1, 0, nil},
	} {
		checkPeaks(t, c.trace, c.threshold, c.guard, c.want)
	}
}

// repeatedSteps returns the numbers from low on in equal steps that are less than high.
func repeatedSteps(low, high, step int64) []int64 {
	var list []int64
	for x := low; x < high; x += step {
		list = append(list, x)
	}
	return list
}

func TestAllPeaksOver(t *testing.T) {
	for _, trace := range smallSignals() {
		for threshold := int64(1); threshold <= 3; threshold++ {
			for guard := range int64(6) {
				checkPeaks(t, trace, threshold, guard, wantedPeaks(trace, threshold, guard))
			}
		}
	}
	for _, trace := range longSignals() {
		for _, threshold := range []int64{1, 500, loudest, loudest + 1, strongest} {
			for _, guard := range []int64{0, 1, 2, 7, 60, farthest - 1, farthest} {
				checkPeaks(t, trace, threshold, guard, wantedPeaks(trace, threshold, guard))
			}
		}
	}
}

// TestManyEqualPeaks has elements with few different absolute values, so that most choices are
// among several ones.
func TestManyEqualPeaks(t *testing.T) {
	for seed := range int64(60) {
		trace := uneven(longest-int(seed), seed)
		for i := range trace {
			trace[i] = trace[i] / 300 * (strongest / 4)
		}
		guard := seed % 9
		want := wantedPeaks(trace, strongest/4, guard)
		for range 5 {
			checkPeaks(t, trace, strongest/4, guard, want)
		}
	}
}

func TestWeights(t *testing.T) {
	for _, c := range []struct {
		pulse []int64
		want  int64
	}{
		{nil, 0}, {[]int64{}, 0}, {[]int64{0}, 0}, {[]int64{5}, 5}, {[]int64{-5}, 5}, {[]int64{1, 1, -1}, 3}, {[]int64{-loudest, 0, loudest}, 2 * loudest},
		{repeated(longest, loudest), longest * loudest}, {repeated(longest, -loudest), longest * loudest}, {repeated(longest, 1, -1), longest},
	} {
		got, code := impl.WeightOf(c.pulse)
		checkNumber(t, "WeightOf", got, code, c.want)
	}
	for _, pulse := range append(smallSignals(), longSignals()...) {
		got, code := impl.WeightOf(pulse)
		checkNumber(t, "WeightOf", got, code, wantedWeight(pulse))
	}
}

func TestClearCases(t *testing.T) {
	code4 := []int64{1, 1, 1, -1} // energy 4, sidelobe 1, weight 4
	for _, c := range []struct {
		pulse       []int64
		gain, noise int64
		by          int64
	}{
		// An echo is clear by 1, not by 0, and not by -1.
		{code4, 3, 1, 1}, {code4, -3, 1, 1}, {code4, 8, 3, 0}, {code4, -8, 3, 0}, {code4, 5, 2, -1}, {code4, -5, 2, -1},
		{[]int64{1}, 1, 0, 1}, {[]int64{1}, -1, 0, 1}, {[]int64{-1}, 1, 0, 1}, {[]int64{1}, 0, 0, 0}, {[]int64{1}, 999, 499, 1}, {[]int64{1}, -999, 499, 1},
		{[]int64{1}, loudest, 500, 0}, {[]int64{1}, -loudest, 500, 0}, {[]int64{1}, 999, 500, -1}, {[]int64{1}, -999, 500, -1},
		{[]int64{1, 1, -1}, -4, 1, 2}, {[]int64{1, 1, -1}, 3, 1, 0}, {[]int64{1, 1, -1}, 2, 1, -2},
		// The limits of gain and noise.
		{code4, 0, 0, 0}, {code4, 0, loudest, -8000}, {code4, loudest, 0, 3000}, {code4, -loudest, 0, 3000}, {code4, loudest, loudest, -5000}, {code4, -loudest, loudest, -5000},
		{[]int64{loudest}, 3, loudest, 1000000}, {[]int64{loudest}, 2, loudest, 0}, {[]int64{-loudest}, -loudest, loudest, 998000000},
		{repeated(longest, loudest), loudest, loudest, 200000000}, {repeated(longest, loudest), 800, loudest, 0}, {repeated(longest, loudest), -801, loudest, 1000000},
		// Without energy no echo is clear, nor without a sample.
		{nil, 0, 0, 0}, {nil, loudest, 0, 0}, {nil, -loudest, loudest, 0}, {[]int64{}, 1, 1, 0}, {[]int64{0}, loudest, 0, 0}, {repeated(longest, 0), -loudest, loudest, 0},
	} {
		if by := clearance(c.pulse, c.gain, c.noise); by != c.by {
			t.Errorf("the echo of %v with %d is clear by %d, want %d", c.pulse, c.gain, by, c.by)
		}
		checkClear(t, c.pulse, c.gain, c.noise, c.by > 0)
	}
}

func TestAllClearEchoes(t *testing.T) {
	pulses := append(somePulses(), nil)
	for _, pulse := range pulses {
		for _, noise := range []int64{0, 1, 2, 3, 5, 100, 333, 499, 999, loudest} {
			for _, gain := range []int64{0, 1, 2, 3, 4, 5, 6, 7, 8, 9, 10, 333, 998, 999, loudest} {
				want := clearance(pulse, gain, noise) > 0
				checkClear(t, pulse, gain, noise, want)
				checkClear(t, pulse, -gain, noise, want)
			}
		}
	}
}

func TestLeastGainCases(t *testing.T) {
	for _, c := range []struct {
		pulse       []int64
		noise, want int64
	}{
		{[]int64{1, 1, -1}, 1, 4}, {[]int64{1, 1, -1}, 0, 1}, {[]int64{1, 1, -1}, 333, loudest}, {[]int64{1, 1, -1}, 334, 0}, {[]int64{1, 1, -1}, loudest, 0},
		{[]int64{1}, 0, 1}, {[]int64{-1}, 1, 3}, {[]int64{1}, 499, 999}, {[]int64{1}, 500, 0}, {[]int64{2}, 1, 2}, {[]int64{3}, 1, 1}, {[]int64{3}, 2, 2},
		{[]int64{loudest}, loudest, 3}, {[]int64{loudest}, 499, 1}, {[]int64{loudest}, 500, 2}, {[]int64{1, 1, 1, -1}, 1, 3}, {[]int64{1, 1, 1, -1}, 3, 9},
		{repeated(longest, loudest), loudest, 801}, {repeated(longest, loudest), 0, 1}, {repeated(longest, 1), 0, 1}, {repeated(longest, 1), 1, 801}, {repeated(longest, 1), 2, 0},
		{[]int64{0}, 0, 0}, {[]int64{0}, 1, 0}, {[]int64{0, 0, 0}, 0, 0}, {repeated(longest, 0), loudest, 0},
	} {
		checkLeastGain(t, c.pulse, c.noise, c.want)
	}
}

func TestAllLeastGains(t *testing.T) {
	for _, pulse := range somePulses() {
		energy, sidelobe, weight := wantedEnergy(pulse), wantedSidelobe(pulse), wantedWeight(pulse)
		for _, noise := range []int64{0, 1, 2, 3, 10, 99, 250, 333, 334, 499, 500, 999, loudest} {
			want := int64(0)
			for gain := int64(loudest); gain >= 1 && gain*(energy-sidelobe) > 2*noise*weight; gain-- {
				want = gain
			}
			checkLeastGain(t, pulse, noise, want)
			if want > 0 {
				checkClear(t, pulse, want, noise, true)
				checkClear(t, pulse, want-1, noise, false)
			} else {
				checkClear(t, pulse, loudest, noise, false)
			}
		}
	}
}

// TestClearErrors has the errors in their order.
func TestClearErrors(t *testing.T) {
	notGains := []int64{loudest + 1, -loudest - 1, 1 << 32, math.MaxInt64, math.MinInt64}
	notNoises := []int64{-1, loudest + 1, -loudest, 1 << 32, math.MaxInt64, math.MinInt64}
	for _, pulse := range notSignals() {
		weight, code := impl.WeightOf(pulse)
		checkNoNumber(t, "WeightOf", weight, code, impl.ErrInvalid)
		for _, noise := range append(notNoises, 0, 1, loudest) {
			gain, code := impl.LeastGain(pulse, noise)
			checkNoNumber(t, "LeastGain", gain, code, impl.ErrInvalid)
			for _, gain := range append(notGains, 0, 1, loudest) {
				isClear, code := impl.IsClearEcho(pulse, gain, noise)
				checkNoBool(t, "IsClearEcho", isClear, code, impl.ErrInvalid)
			}
		}
	}
	for _, pulse := range [][]int64{{1, 1, -1}, {0}, repeated(longest, loudest), nil} {
		for _, noise := range append(notNoises, 0, loudest) {
			for _, gain := range notGains {
				isClear, code := impl.IsClearEcho(pulse, gain, noise)
				checkNoBool(t, "IsClearEcho", isClear, code, impl.ErrRange)
			}
		}
		for _, noise := range notNoises {
			for _, gain := range []int64{0, 1, -loudest, loudest} {
				isClear, code := impl.IsClearEcho(pulse, gain, noise)
				checkNoBool(t, "IsClearEcho", isClear, code, impl.ErrRange)
			}
			// Only the echo of an empty pulse may be asked for, not the least gain.
			want := int64(impl.ErrRange)
			if len(pulse) == 0 {
				want = impl.ErrState
			}
			gain, code := impl.LeastGain(pulse, noise)
			checkNoNumber(t, "LeastGain", gain, code, want)
		}
	}
	for _, noise := range []int64{0, 1, loudest} {
		for _, pulse := range [][]int64{nil, {}} {
			gain, code := impl.LeastGain(pulse, noise)
			checkNoNumber(t, "LeastGain", gain, code, impl.ErrState)
		}
	}
}

func TestFoundCases(t *testing.T) {
	code3, two := []int64{1, 1, -1}, []int64{1, 1}
	signal := []int64{5, 5, -5, 0, -2, -2, 2}
	for _, c := range []struct {
		s             search
		delays, gains []int64
	}{
		{search{signal, code3, 3, 5}, []int64{0, 4}, []int64{5, -2}},
		{search{signal, code3, 3, 1}, []int64{0}, []int64{5}},
		{search{signal, code3, 3, 0}, nil, nil},
		{search{signal, code3, 3, impl.MaxEchoes}, []int64{0, 4}, []int64{5, -2}},
		// The threshold is at or one above the absolute value of the peak, here 15 and then -6.
		{search{signal, code3, 15, 5}, []int64{0}, []int64{5}}, {search{signal, code3, 16, 5}, nil, nil}, {search{signal, code3, strongest, 5}, nil, nil},
		{search{signal, code3, 6, 5}, []int64{0, 4}, []int64{5, -2}}, {search{signal, code3, 7, 5}, []int64{0}, []int64{5}},
		{search{[]int64{-3}, []int64{2}, 6, 1}, []int64{0}, []int64{-2}}, {search{[]int64{-3}, []int64{2}, 7, 1}, nil, nil},
		// Gains halfway between two integers are rounded to the even one, and 0 ends the search.
		{search{[]int64{1, 0}, two, 1, 5}, nil, nil}, {search{[]int64{-1, 0}, two, 1, 5}, nil, nil}, {search{[]int64{1, 2}, two, 1, 1}, []int64{0}, []int64{2}}, {search{[]int64{-1, -2}, two, 1, 1}, []int64{0}, []int64{-2}},
		{search{[]int64{5, 0}, two, 1, 1}, []int64{0}, []int64{2}}, {search{[]int64{-5, 0}, two, 1, 1}, []int64{0}, []int64{-2}}, {search{[]int64{0, 7}, two, 1, 1}, []int64{0}, []int64{4}}, {search{[]int64{0, -7}, two, 1, 1}, []int64{0}, []int64{-4}},
		{search{[]int64{5}, []int64{10}, 1, 9}, nil, nil}, {search{[]int64{-5}, []int64{10}, 1, 9}, nil, nil}, {search{[]int64{6}, []int64{10}, 1, 9}, []int64{0}, []int64{1}}, {search{[]int64{-6}, []int64{10}, 1, 9}, []int64{0}, []int64{-1}},
		{search{[]int64{15}, []int64{10}, 1, 9}, []int64{0}, []int64{2}}, {search{[]int64{25}, []int64{10}, 1, 1}, []int64{0}, []int64{2}}, {search{[]int64{-25}, []int64{10}, 1, 1}, []int64{0}, []int64{-2}}, {search{[]int64{-35}, []int64{10}, 1, 1}, []int64{0}, []int64{-4}},
		// The peak ends the search with the gain 0, although there is another echo in the signal.
		{search{[]int64{0, 0, 0}, two, 1, 5}, nil, nil}, {search{[]int64{9, 9, 0, 1, 0}, two, 1, 5}, []int64{0}, []int64{9}},
		// A pulse without energy is found nowhere.
		{search{[]int64{7, 8, 9}, []int64{0, 0}, 1, impl.MaxEchoes}, nil, nil}, {search{repeated(longest, loudest), repeated(longest, 0), 1, impl.MaxEchoes}, nil, nil},
		// Echoes that overlap: they are found as the matches tell, again at the same delay, in any order.
		{search{[]int64{-10, 15, -9, 2}, []int64{2, -2, -1}, 1, 10}, []int64{1, 0, 1, 0}, []int64{5, -3, -1, -1}},
		{search{[]int64{-10, 15, -9, 2}, []int64{2, -2, -1}, 1, 3}, []int64{1, 0, 1}, []int64{5, -3, -1}},
		{search{[]int64{-10, 15, -9, 2}, []int64{2, -2, -1}, 31, 10}, []int64{1, 0}, []int64{5, -3}},
		{search{[]int64{8, -4, 11, 5}, []int64{0, -2, 3}, 1, 10}, []int64{0, 1, 0}, []int64{3, 1, 1}},
		{search{[]int64{-4, 6, -2, -2}, two, 1, 10}, []int64{1, 2, 1, 0, 2}, []int64{2, -3, 2, -1, -1}},
		{search{[]int64{2, 5, 1, -3}, code3, 1, 10}, []int64{1, 0}, []int64{3, 2}},
		// Of two matches with the same absolute value the first one is taken.
		{search{[]int64{4, 4, 0, -4, -4}, two, 1, 1}, []int64{0}, []int64{4}}, {search{[]int64{-4, -4, 0, 4, 4}, two, 1, 2}, []int64{0, 3}, []int64{-4, 4}},
		// More echoes than are asked for.
		{search{repeated(20, 3, 0), []int64{2}, 1, 10}, repeatedSteps(0, 20, 2), repeated(10, 2)}, {search{repeated(longest, loudest), []int64{-1}, 1, 10}, repeatedSteps(0, 10, 1), repeated(10, -loudest)},
		{search{repeated(longest, loudest), repeated(longest, loudest), 400000000, 10}, []int64{0}, []int64{1}}, {search{repeated(longest, loudest), repeated(longest, loudest), 400000001, 10}, nil, nil},
	} {
		checkFound(t, c.s, c.delays, c.gains)
	}
}

// TestRemainders has subtractions behind which samples are at their limits or beyond.
func TestRemainders(t *testing.T) {
	pulse := []int64{1, 3}
	for _, sign := range []int64{1, -1} {
		checkNotFound(t, search{[]int64{-loudest * sign, loudest * sign}, pulse, 1, 1}, impl.ErrLimit)
		checkNotFound(t, search{[]int64{-loudest * sign, loudest * sign}, pulse, 2000, 10}, impl.ErrLimit)
		// Nothing is subtracted if no echo is told.
		checkFound(t, search{[]int64{-loudest * sign, loudest * sign}, pulse, 2001, 10}, nil, nil)
		checkFound(t, search{[]int64{-loudest * sign, loudest * sign}, pulse, 1, 0}, nil, nil)
		// The gain is 100 both times, and what remains of the first sample 1000 and 1001.
		checkFound(t, search{[]int64{-900 * sign, 634 * sign}, pulse, 1, 1}, []int64{0}, []int64{100 * sign})
		checkFound(t, search{[]int64{-900 * sign, 634 * sign}, pulse, 1, 10}, []int64{0}, []int64{100 * sign})
		checkNotFound(t, search{[]int64{-901 * sign, 634 * sign}, pulse, 1, 1}, impl.ErrLimit)
		// Only the second subtraction leaves too much.
		s := search{[]int64{-555 * sign, 570 * sign, -713 * sign, 16 * sign, 980 * sign}, []int64{2, 0, 0, -1}, 1, 1}
		checkFound(t, s, []int64{0}, []int64{-225 * sign})
		for s.most = 2; s.most <= impl.MaxEchoes; s.most++ {
			checkNotFound(t, s, impl.ErrLimit)
		}
	}
}

func TestAllSearches(t *testing.T) {
	told := map[bool]int{}
	for seed := int64(1); seed <= 1500; seed++ {
		pulse, signal := uneven(1+int(seed%5), seed), uneven(5+int(seed%3), 31*seed+7)
		for i := range pulse {
			pulse[i] /= 40 * (1 + seed%9)
		}
		for i := range signal {
			signal[i] /= 1 + 29*(seed%2)
		}
		for _, threshold := range []int64{1, 7, 150, 4000} {
			for _, most := range []int64{0, 1, 2, 3, impl.MaxEchoes} {
				told[checkSearch(t, search{signal, pulse, threshold, most})]++
			}
		}
	}
	if told[true] < 200 || told[false] < 200 {
		t.Errorf("%d searches with echoes, %d with too great remainders", told[true], told[false])
	}
}

func TestLongSearches(t *testing.T) {
	for _, pulse := range somePulses() {
		for seed := int64(1); seed <= 3; seed++ {
			for _, n := range []int{len(pulse), len(pulse) + 1, 50, longest} {
				if n >= len(pulse) && n <= longest {
					checkSearch(t, search{uneven(n, seed), pulse, seed * seed * seed, impl.MaxEchoes})
				}
			}
		}
	}
}

// TestThresholdsOfSearches has all thresholds near the absolute value of each match that is taken.
func TestThresholdsOfSearches(t *testing.T) {
	for seed := int64(1); seed <= 200; seed++ {
		pulse, signal := uneven(1+int(seed%3), seed), uneven(5+int(seed%3), 17*seed)
		for i := range pulse {
			pulse[i] /= 300
		}
		for i := range signal {
			signal[i] /= 20
		}
		for _, match := range wantedMatches(signal, pulse) {
			for threshold := max(match, -match) - 1; threshold <= max(match, -match)+1; threshold++ {
				if threshold >= 1 {
					checkSearch(t, search{signal, pulse, threshold, impl.MaxEchoes})
				}
			}
		}
	}
}

// TestSearchErrors has numbers out of range; those of a signal come before them.
func TestSearchErrors(t *testing.T) {
	good := search{[]int64{5, 5, -5}, []int64{1, 1, -1}, 1, 1}
	loud := search{[]int64{-loudest, loudest}, []int64{1, 3}, 1, 1}
	checkFound(t, good, []int64{0}, []int64{5})
	checkNotFound(t, loud, impl.ErrLimit)
	for _, s := range []search{good, loud} {
		for _, threshold := range []int64{0, -1, -strongest, strongest + 1, math.MaxInt64, math.MinInt64} {
			for _, most := range []int64{0, 1, impl.MaxEchoes, -1, impl.MaxEchoes + 1} {
				checkNotFound(t, search{s.signal, s.pulse, threshold, most}, impl.ErrRange)
			}
		}
		for _, most := range []int64{-1, -impl.MaxEchoes, impl.MaxEchoes + 1, 1 << 32, 1<<32 + 1, math.MaxInt64, math.MinInt64} {
			for _, threshold := range []int64{1, strongest} {
				checkNotFound(t, search{s.signal, s.pulse, threshold, most}, impl.ErrRange)
			}
		}
	}
	for _, list := range notSignals() {
		checkNotFound(t, search{list, []int64{1}, 0, -1}, impl.ErrInvalid)
		checkNotFound(t, search{nil, list, 0, -1}, impl.ErrInvalid)
	}
	checkNotFound(t, search{[]int64{1}, []int64{1, 3}, 0, -1}, impl.ErrState)
	checkNotFound(t, search{[]int64{1}, nil, 0, -1}, impl.ErrState)
}

// echoIn returns a signal of n samples with one echo.
func echoIn(t *testing.T, pulse []int64, delay, gain int64, n int) []int64 {
	t.Helper()
	signal, code := impl.EchoesOf(pulse, []int64{delay}, []int64{gain}, int64(n))
	if code != impl.ErrNone {
		t.Fatalf("EchoesOf(%v, %d, %d, %d): code %d", pulse, delay, gain, n, code)
	}
	return signal
}

// withNoise adds to each sample the noise that lowers the match at the delay and raises that at
// another index most; rise is 1 to raise it upwards and -1 to raise it downwards.
func withNoise(signal, pulse []int64, delay, gain, noise int64, other int, rise int64) []int64 {
	list := slices.Clone(signal)
	at := func(k int) int64 {
		if k < 0 || k >= len(pulse) {
			return 0
		}
		return pulse[k]
	}
	for i := range list {
		slope := rise * at(i-other)
		if gain > 0 {
			slope -= at(i - int(delay))
		} else {
			slope += at(i - int(delay))
		}
		switch {
		case slope > 0:
			list[i] += noise
		case slope < 0:
			list[i] -= noise
		}
	}
	return list
}

func checkFoundAt(t *testing.T, signal, pulse []int64, delay, gain, noise int64) {
	t.Helper()
	got, code := impl.DelayOf(signal, pulse)
	if got != delay || code != impl.ErrNone {
		t.Errorf("the echo of %v with %d at %d under %d is found at %d, %d in %v", pulse, gain, delay, noise, got, code, signal)
	}
	if noise == 0 {
		checkFound(t, search{signal, pulse, 1, impl.MaxEchoes}, []int64{delay}, []int64{gain})
		return
	}
	// The match is greater than half of the energy, so that the gain is not rounded to 0.
	delays, gains, code := impl.FindEchoes(signal, pulse, 1, 1)
	if !slices.Equal(delays, []int64{delay}) || len(gains) != 1 || gains[0]*gain <= 0 || code != impl.ErrNone {
		t.Errorf("FindEchoes finds the echo of %v with %d at %d under %d at %v with %v, %d", pulse, gain, delay, noise, delays, gains, code)
	}
}

// checkClearEcho has an echo at all delays, without noise and under the worst noise for each other
// index.
func checkClearEcho(t *testing.T, pulse []int64, gain, noise int64, n int) {
	t.Helper()
	checkClear(t, pulse, gain, noise, true)
	for delay := range int64(n - len(pulse) + 1) {
		signal := echoIn(t, pulse, delay, gain, n)
		checkFoundAt(t, signal, pulse, delay, gain, 0)
		for other := range n - len(pulse) + 1 {
			if int64(other) == delay {
				continue
			}
			for _, rise := range []int64{1, -1} {
				checkFoundAt(t, withNoise(signal, pulse, delay, gain, noise, other, rise), pulse, delay, gain, noise)
			}
		}
	}
}

func TestClearEchoesAreFound(t *testing.T) {
	count := 0
	for _, pulse := range somePulses() {
		if len(pulse) > 20 {
			continue
		}
		greatest := slices.Max(pulse)
		greatest = max(greatest, -slices.Min(pulse))
		for noise := range int64(4) {
			least, code := impl.LeastGain(pulse, noise)
			for gain := least; code == impl.ErrNone && gain <= least+2 && gain*greatest+noise <= loudest; gain++ {
				count++
				checkClearEcho(t, pulse, gain, noise, len(pulse)+4)
				checkClearEcho(t, pulse, -gain, noise, len(pulse)+4)
			}
		}
	}
	if count < 500 {
		t.Errorf("only %d clear echoes", count)
	}
}

// TestEchoesUnderLoudNoise has echoes of a code that are clear by as little as possible, in signals
// of the greatest length.
func TestEchoesUnderLoudNoise(t *testing.T) {
	pulse := []int64{1, 1, 1, 1, 1, -1, -1, 1, 1, -1, 1, -1, 1} // energy and weight 13, sidelobe 1
	for _, noise := range []int64{1, 90, 230, 311} {
		gain, code := impl.LeastGain(pulse, noise)
		if code != impl.ErrNone || gain+noise > loudest {
			t.Fatalf("LeastGain under %d = %d, %d", noise, gain, code)
		}
		checkClear(t, pulse, gain-1, noise, false)
		for _, delay := range []int64{0, 1, 12, 200, longest - 14, longest - 13} {
			for _, g := range []int64{gain, -gain} {
				signal := echoIn(t, pulse, delay, g, longest)
				for other := 0; other <= longest-13; other += 3 {
					if int64(other) != delay {
						checkFoundAt(t, withNoise(signal, pulse, delay, g, noise, other, 1), pulse, delay, g, noise)
						checkFoundAt(t, withNoise(signal, pulse, delay, g, noise, other, -1), pulse, delay, g, noise)
					}
				}
			}
		}
	}
}

// TestEchoesUnderUnevenNoise has noise of all sizes up to the greatest one.
func TestEchoesUnderUnevenNoise(t *testing.T) {
	pulse := []int64{2, 2, 2, -2, -2, 2, -2}
	for seed := int64(1); seed <= 300; seed++ {
		noise := 1 + seed%100
		gain, _ := impl.LeastGain(pulse, noise)
		delay := seed % (longest - 7)
		signal := echoIn(t, pulse, delay, gain, longest)
		for i, x := range uneven(longest, seed) {
			signal[i] += x % (noise + 1)
		}
		checkFoundAt(t, signal, pulse, delay, gain, noise)
	}
}

// TestEchoesThatAreNotClear has noise under which another index is the peak, also of echoes that fail
// to be clear only because both sides are equal.
func TestEchoesThatAreNotClear(t *testing.T) {
	for _, c := range []struct {
		pulse       []int64
		gain, noise int64
	}{
		{[]int64{1}, 2, 1}, {[]int64{3}, 2, 3}, {[]int64{-1}, 500, 250}, {[]int64{1, 1, -1}, 2, 1}, {[]int64{1, -1, 1, 1}, 2, 1},
	} {
		n := len(c.pulse)
		least, _ := impl.LeastGain(c.pulse, c.noise)
		for _, sign := range []int64{1, -1} {
			checkClear(t, c.pulse, sign*c.gain, c.noise, false)
			for _, rise := range []int64{1, -1} {
				signal := withNoise(echoIn(t, c.pulse, int64(n), sign*c.gain, 2*n), c.pulse, int64(n), sign*c.gain, c.noise, 0, rise)
				got, code := impl.DelayOf(signal, c.pulse)
				checkNumber(t, "DelayOf", got, code, 0)
				clear := withNoise(echoIn(t, c.pulse, int64(n), sign*least, 2*n), c.pulse, int64(n), sign*least, c.noise, 0, rise)
				checkFoundAt(t, clear, c.pulse, int64(n), sign*least, c.noise)
			}
		}
	}
}

// TestFiltersAtTheSameTime checks that calls keep nothing that another one sees.
func TestFiltersAtTheSameTime(t *testing.T) {
	var group sync.WaitGroup
	trace, signal := uneven(longest, 11), []int64{-10, 15, -9, 2}
	for i := range 20 {
		group.Go(func() {
			guard := int64(i % 4)
			checkPeaks(t, trace, 100, guard, wantedPeaks(trace, 100, guard))
			checkSearch(t, search{signal, []int64{2, -2, -1}, 1, int64(i % 11)})
		})
	}
	group.Wait()
}

// TestFiltersShareNothing checks that no function changes its arguments or what lies behind them,
// and that results that are changed do not change arguments or later results.
func TestFiltersShareNothing(t *testing.T) {
	signal, pulse := []int64{5, 5, -5, 0, -2, -2, 2, 9, 9}[:7], []int64{1, 1, -1, 7, 7}[:3]
	one := []int64{1, 8, 8}[:1]
	calls := []func() []int64{
		func() []int64 { list, _ := impl.MatchSignal(signal, pulse); return list },
		func() []int64 { list, _ := impl.MatchSignal(signal, one); return list },
		func() []int64 { list, _ := impl.MatchSignal(signal, signal); return list },
		func() []int64 { list, _ := impl.PeaksOver(signal, 2, 1); return list },
		func() []int64 { list, _ := impl.PeaksOver(signal, 1, 0); return list },
		func() []int64 { list, _, _ := impl.FindEchoes(signal, pulse, 1, 5); return list },
		func() []int64 { _, list, _ := impl.FindEchoes(signal, pulse, 1, 5); return list },
		func() []int64 { _, list, _ := impl.FindEchoes(signal, one, 1, 1); return list },
		func() []int64 { list, _, _ := impl.FindEchoes(signal, signal, 1, 2); return list },
	}
	for i, call := range calls {
		first := call()
		want := slices.Clone(first)
		fill(call(), 77)
		if !slices.Equal(first, want) || !slices.Equal(call(), want) || len(want) == 0 {
			t.Errorf("results of call %d share memory", i)
		}
		fill(first, 78)
	}
	delays, gains, _ := impl.FindEchoes(signal, pulse, 1, 5)
	fill(delays, 79)
	if !slices.Equal(gains, []int64{5, -2}) {
		t.Errorf("delays and gains share memory: %v", gains)
	}
	impl.PeakOf(signal)
	impl.DelayOf(signal, pulse)
	impl.WeightOf(pulse)
	impl.IsClearEcho(pulse, 5, 1)
	impl.LeastGain(pulse, 1)
	for _, c := range []struct{ got, want []int64 }{
		{signal, []int64{5, 5, -5, 0, -2, -2, 2, 9, 9}}, {pulse, []int64{1, 1, -1, 7, 7}}, {one, []int64{1, 8, 8}},
	} {
		if !slices.Equal(c.got[:cap(c.got)], c.want) {
			t.Errorf("%v was changed to %v", c.want, c.got[:cap(c.got)])
		}
	}
}
