package tests

import (
	"math"
	"slices"
	"sync"
	"testing"

	"loop.example/g00915/impl"
)

const (
	longest = impl.MaxSignal
	loudest = impl.MaxSample
)

// repeated returns a list of n numbers, of which each is the next one of the given ones, which are
// taken in turn.
func repeated(n int, numbers ...int64) []int64 {
	list := make([]int64, n)
	for i := range list {
		list[i] = numbers[i%len(numbers)]
	}
	return list
}

// uneven returns n samples without a plain pattern, in the whole range of samples.
func uneven(n int, seed int64) []int64 {
	list := make([]int64, n)
	for i := range list {
		seed = (seed*1103515245 + 12345) % (1 << 31)
		list[i] = seed/65536%(2*loudest+1) - loudest
	}
	return list
}

// withSample returns a list in which one number is another one.
func withSample(list []int64, i int, x int64) []int64 {
	list = slices.Clone(list)
	list[i] = x
	return list
}

// smallSignals returns all signals of up to 5 samples in -2..2.
func smallSignals() [][]int64 {
	list := [][]int64{nil}
	for i := 0; i < len(list); i++ {
		if len(list[i]) == 5 {
			break // all behind it are as long
		}
		for x := int64(-2); x <= 2; x++ {
			list = append(list, append(slices.Clone(list[i]), x))
		}
	}
	return list
}

// longSignals returns signals of no, of few and of up to MaxSignal samples, also at their limits.
func longSignals() [][]int64 {
	list := [][]int64{
		nil, {}, {0}, {1}, {-1}, {loudest}, {-loudest}, {loudest, -loudest}, {-loudest, -loudest},
		{1, 1, 1, 1, 1, -1, -1, 1, 1, -1, 1, -1, 1},
		repeated(longest, 0), repeated(longest, loudest), repeated(longest, -loudest), repeated(longest, loudest, -loudest),
		withSample(repeated(longest, 0), 0, loudest), withSample(repeated(longest, 0), longest-1, -loudest),
		withSample(withSample(repeated(longest, 0), 0, loudest), longest-1, -loudest),
	}
	for n := 2; n <= longest; n += 2 + n/3 {
		list = append(list, uneven(n, int64(n)), uneven(n-1, int64(7*n)))
	}
	return append(list, uneven(longest-1, 3), uneven(longest, 5))
}

// notSignals are too long or have samples just beyond their limits or far beyond them.
func notSignals() [][]int64 {
	return [][]int64{
		repeated(longest+1, 0), repeated(longest+1, 1), repeated(2*longest, loudest), repeated(10000, 1, -1),
		{loudest + 1}, {-loudest - 1}, {0, 0, loudest + 1}, {-loudest - 1, 0, 0}, {1, loudest + 1, 1}, {loudest + 1, -loudest - 1},
		withSample(repeated(longest, loudest), 0, loudest+1), withSample(repeated(longest, -loudest), longest-1, -loudest-1),
		{math.MaxInt64}, {math.MinInt64}, {1 << 32}, {-1 << 32}, {1<<32 + 1}, {0, math.MinInt64, 0}, {math.MaxInt64, math.MinInt64 + 1},
		withSample(repeated(longest+1, 0), longest, loudest+1),
	}
}

// wantedCorrelations adds the product of any two samples, also of one with itself, to the correlation
// at their distance.
func wantedCorrelations(signal []int64) []int64 {
	list := make([]int64, len(signal))
	for i := range signal {
		for j := range i + 1 {
			list[i-j] += signal[i] * signal[j]
		}
	}
	return list
}

func wantedSidelobe(signal []int64) int64 {
	greatest := int64(0)
	for _, x := range wantedCorrelations(signal)[min(1, len(signal)):] {
		greatest = max(greatest, x, -x)
	}
	return greatest
}

func wantedPulse(bits []int64, width, amplitude int64) []int64 {
	var pulse []int64
	for i := range width * int64(len(bits)) {
		pulse = append(pulse, amplitude*(2*bits[i/width]-1))
	}
	return pulse
}

// scene is a pulse with its echoes in a signal of some length.
type scene struct {
	pulse, delays, gains []int64
	length               int64
}

// wanted returns the sum of the echoes, sample by sample.
func (s scene) wanted() []int64 {
	list := make([]int64, s.length)
	for i := range list {
		for j, delay := range s.delays {
			place := int64(i) - delay
			if place >= 0 && place < int64(len(s.pulse)) {
				list[i] += s.pulse[place] * s.gains[j]
			}
		}
	}
	return list
}

func checkEchoes(t *testing.T, s scene, want []int64) {
	t.Helper()
	got, code := impl.EchoesOf(s.pulse, s.delays, s.gains, s.length)
	if !slices.Equal(got, want) || code != impl.ErrNone {
		t.Errorf("EchoesOf(%v) = %v, %d, want %v", s, got, code, want)
	}
}

func checkNoEchoes(t *testing.T, s scene, want int64) {
	t.Helper()
	got, code := impl.EchoesOf(s.pulse, s.delays, s.gains, s.length)
	if len(got) != 0 || code != want {
		t.Errorf("EchoesOf(%v) = %v, %d, want code %d", s, got, code, want)
	}
}

func checkPulse(t *testing.T, bits []int64, width, amplitude int64, want []int64) {
	t.Helper()
	got, code := impl.PulseOfBits(bits, width, amplitude)
	if !slices.Equal(got, want) || code != impl.ErrNone {
		t.Errorf("PulseOfBits(%v, %d, %d) = %v, %d, want %v", bits, width, amplitude, got, code, want)
	}
}

func checkNoPulse(t *testing.T, bits []int64, width, amplitude, want int64) {
	t.Helper()
	got, code := impl.PulseOfBits(bits, width, amplitude)
	if len(got) != 0 || code != want {
		t.Errorf("PulseOfBits(%v, %d, %d) = %v, %d, want code %d", bits, width, amplitude, got, code, want)
	}
}

func TestConstantsOfPulses(t *testing.T) {
	if impl.MaxSignal != 400 || impl.MaxSample != 1000 || impl.MaxCode != 10 {
		t.Error("limits of chapter 9")
	}
}

func TestSignals(t *testing.T) {
	for _, signal := range append(smallSignals(), longSignals()...) {
		if !impl.IsSignal(signal) {
			t.Errorf("IsSignal(%v) = false", signal)
		}
	}
	for _, list := range notSignals() {
		if impl.IsSignal(list) {
			t.Errorf("IsSignal(%v) = true", list)
		}
		energy, code := impl.EnergyOf(list)
		checkNoNumber(t, "EnergyOf", energy, code, impl.ErrInvalid)
		correlations, code := impl.Correlations(list)
		checkNoList(t, "Correlations", correlations, code, impl.ErrInvalid)
		sidelobe, code := impl.SidelobeOf(list)
		checkNoNumber(t, "SidelobeOf", sidelobe, code, impl.ErrInvalid)
		turned, code := impl.TurnSignal(list)
		checkNoList(t, "TurnSignal", turned, code, impl.ErrInvalid)
	}
}

// TestSampleLimits has each sample near both limits alone and among others, at each place.
func TestSampleLimits(t *testing.T) {
	for x := int64(-loudest - 3); x <= loudest+3; x++ {
		want := x >= -loudest && x <= loudest
		for i := range 3 {
			if impl.IsSignal([]int64{x}) != want || impl.IsSignal(withSample(repeated(3, 0), i, x)) != want {
				t.Errorf("a signal with the sample %d is not told as %v", x, want)
			}
		}
	}
	for n := range 2 * longest {
		if impl.IsSignal(repeated(n, loudest, -loudest)) != (n <= longest) {
			t.Errorf("IsSignal of %d samples = %v", n, n > longest)
		}
	}
}

func TestCorrelationCases(t *testing.T) {
	for _, c := range []struct {
		signal, correlations []int64
		sidelobe             int64
	}{
		{nil, nil, 0},
		{[]int64{}, nil, 0},
		{[]int64{0}, []int64{0}, 0},
		{[]int64{-7}, []int64{49}, 0}, // the shift 0 is no sidelobe
		{[]int64{loudest}, []int64{1000000}, 0},
		{[]int64{-loudest}, []int64{1000000}, 0},
		{[]int64{3, -4}, []int64{25, -12}, 12},
		{[]int64{1, 1, -1}, []int64{3, 0, -1}, 1},
		{[]int64{-1, 1, 1}, []int64{3, 0, -1}, 1},
		{[]int64{1, 2, 3, 4}, []int64{30, 20, 11, 4}, 20},
		{[]int64{1, -2, 3, -4}, []int64{30, -20, 11, -4}, 20}, // a negative one is the sidelobe
		{[]int64{3, -5, 2, 7}, []int64{87, -11, -29, 21}, 29},
		{[]int64{5, 0, 0, 0, -9}, []int64{106, 0, 0, 0, -45}, 45}, // the one at the last shift is
		{[]int64{0, 0, 0}, []int64{0, 0, 0}, 0},
		{[]int64{1, 1, 1, 1, 1, -1, -1, 1, 1, -1, 1, -1, 1}, []int64{13, 0, 1, 0, 1, 0, 1, 0, 1, 0, 1, 0, 1}, 1},
	} {
		got, code := impl.Correlations(c.signal)
		checkList(t, "Correlations", got, code, c.correlations)
		sidelobe, code := impl.SidelobeOf(c.signal)
		checkNumber(t, "SidelobeOf", sidelobe, code, c.sidelobe)
		energy := int64(0)
		if len(c.correlations) > 0 {
			energy = c.correlations[0]
		}
		n, code := impl.EnergyOf(c.signal)
		checkNumber(t, "EnergyOf", n, code, energy)
	}
}

// TestLoudestSignals has the signals of the greatest energy.
func TestLoudestSignals(t *testing.T) {
	const most = longest * loudest * loudest
	for _, signal := range [][]int64{repeated(longest, loudest), repeated(longest, -loudest), repeated(longest, loudest, -loudest)} {
		energy, code := impl.EnergyOf(signal)
		checkNumber(t, "EnergyOf", energy, code, most)
		sidelobe, code := impl.SidelobeOf(signal)
		checkNumber(t, "SidelobeOf", sidelobe, code, most-loudest*loudest)
		correlations, code := impl.Correlations(signal)
		if len(correlations) != longest || code != impl.ErrNone {
			t.Fatalf("%d correlations, %d", len(correlations), code)
		}
		for shift, x := range correlations {
			want := int64(longest-shift) * loudest * loudest
			if signal[0]*signal[shift] < 0 {
				want = -want
			}
			if x != want {
				t.Errorf("correlation at %d = %d, want %d", shift, x, want)
			}
		}
	}
}

func TestAllCorrelations(t *testing.T) {
	for _, signal := range append(smallSignals(), longSignals()...) {
		got, code := impl.Correlations(signal)
		checkList(t, "Correlations", got, code, wantedCorrelations(signal))
		sidelobe, code := impl.SidelobeOf(signal)
		checkNumber(t, "SidelobeOf", sidelobe, code, wantedSidelobe(signal))
	}
}

func TestNoCorrelationIsGreaterThanEnergy(t *testing.T) {
	for _, signal := range append(smallSignals(), longSignals()...) {
		energy, code := impl.EnergyOf(signal)
		squares := int64(0)
		for _, sample := range signal {
			squares += sample * sample
		}
		checkNumber(t, "EnergyOf", energy, code, squares)
		correlations, _ := impl.Correlations(signal)
		for shift, x := range correlations {
			if x > energy || -x > energy || shift == 0 && x != energy {
				t.Errorf("the correlation of %v at %d is %d, the energy %d", signal, shift, x, energy)
			}
		}
		if sidelobe, _ := impl.SidelobeOf(signal); sidelobe > energy || sidelobe < 0 {
			t.Errorf("the sidelobe of %v is %d, the energy %d", signal, sidelobe, energy)
		}
	}
}

func TestTurnedCases(t *testing.T) {
	for _, c := range []struct{ signal, want []int64 }{
		{nil, nil}, {[]int64{}, nil}, {[]int64{5}, []int64{5}}, {[]int64{1, 2}, []int64{2, 1}}, {[]int64{1, 1, -1}, []int64{-1, 1, 1}},
		{[]int64{1, 2, 3, 4}, []int64{4, 3, 2, 1}}, {[]int64{-loudest, 0, loudest}, []int64{loudest, 0, -loudest}},
	} {
		got, code := impl.TurnSignal(c.signal)
		checkList(t, "TurnSignal", got, code, c.want)
	}
}

func TestTurnedSignalsHaveTheSameCorrelations(t *testing.T) {
	for _, signal := range append(smallSignals(), longSignals()...) {
		turned, code := impl.TurnSignal(signal)
		if len(turned) != len(signal) || code != impl.ErrNone {
			t.Fatalf("TurnSignal(%v) = %v, %d", signal, turned, code)
		}
		for i, sample := range signal {
			if turned[len(turned)-1-i] != sample {
				t.Fatalf("TurnSignal(%v) = %v", signal, turned)
			}
		}
		before, _ := impl.Correlations(signal)
		got, code := impl.Correlations(turned)
		checkList(t, "Correlations", got, code, before)
		back, code := impl.TurnSignal(turned)
		checkList(t, "TurnSignal", back, code, signal)
	}
}

func TestPulseCases(t *testing.T) {
	for _, c := range []struct {
		bits             []int64
		width, amplitude int64
		want             []int64
	}{
		{nil, 1, 1, nil},
		{[]int64{}, longest, loudest, nil},
		{[]int64{1}, 1, 1, []int64{1}},
		{[]int64{0}, 1, 1, []int64{-1}},
		{[]int64{1, 0}, 2, 3, []int64{3, 3, -3, -3}},
		{[]int64{0, 1, 1}, 1, loudest, []int64{-loudest, loudest, loudest}},
		{[]int64{0, 0, 1}, 3, 7, []int64{-7, -7, -7, -7, -7, -7, 7, 7, 7}},
		{[]int64{1}, longest, loudest, repeated(longest, loudest)},
		{[]int64{0}, longest, 1, repeated(longest, -1)},
		{repeated(longest, 1, 0), 1, 5, repeated(longest, 5, -5)},
		{repeated(longest/2, 0, 1), 2, 9, repeated(longest, -9, -9, 9, 9)},
		{[]int64{1, 0}, longest / 2, 1, append(repeated(longest/2, 1), repeated(longest/2, -1)...)},
	} {
		checkPulse(t, c.bits, c.width, c.amplitude, c.want)
	}
}

// TestAllPulses has pulses of all widths and numbers of bits near the ones with MaxSignal samples.
func TestAllPulses(t *testing.T) {
	for n := 0; n <= longest; n += 1 + n/20 {
		bits := repeated(n, 0, 1, 1, 0, 1)
		widths := []int64{1, 2, 3, longest - 1, longest}
		if n > 0 {
			fit := int64(longest / n)
			widths = append(widths, max(fit-1, 1), fit, min(fit+1, longest))
		}
		for _, width := range widths {
			for _, amplitude := range []int64{1, 2, loudest - 1, loudest} {
				if int64(n)*width > longest {
					checkNoPulse(t, bits, width, amplitude, impl.ErrLimit)
					continue
				}
				checkPulse(t, bits, width, amplitude, wantedPulse(bits, width, amplitude))
			}
		}
	}
}

func TestPulsesAreSignals(t *testing.T) {
	for _, width := range []int64{1, 5, longest / 10} {
		bits := repeated(10, 1, 0, 0)
		pulse, _ := impl.PulseOfBits(bits, width, loudest)
		energy, code := impl.EnergyOf(pulse)
		checkNumber(t, "EnergyOf", energy, code, 10*width*loudest*loudest)
	}
}

// notBits are lists with a number that is no bit, and lists that are too long.
func notBits() [][]int64 {
	return [][]int64{
		{2}, {-1}, {0, 1, 2}, {-1, 0, 1}, {1, 2, 1}, {1, -1}, {math.MaxInt64}, {math.MinInt64}, {1 << 32}, {1<<32 + 1},
		withSample(repeated(longest, 1), longest-1, 2), withSample(repeated(longest, 0), 0, -1),
		repeated(longest+1, 1), repeated(longest+1, 0), repeated(5000, 0, 1), repeated(longest+1, 2),
	}
}

func TestPulseErrors(t *testing.T) {
	notWidths := []int64{0, -1, -longest, longest + 1, math.MaxInt64, math.MinInt64, 1 << 32, 1<<32 + 1}
	notAmplitudes := []int64{0, -1, -loudest, loudest + 1, math.MaxInt64, math.MinInt64, 1 << 32, 1<<32 + 1}
	for _, bits := range notBits() {
		for _, width := range append(notWidths, 1, 2, longest) {
			for _, amplitude := range append(notAmplitudes, 1, loudest) {
				checkNoPulse(t, bits, width, amplitude, impl.ErrRange)
			}
		}
	}
	// The last lists of bits give too many samples with each width from 2 on.
	for _, bits := range [][]int64{nil, {1}, {0, 1}, repeated(longest/2+1, 1), repeated(longest, 1, 0)} {
		for _, width := range notWidths {
			for _, amplitude := range append(notAmplitudes, 1, loudest) {
				checkNoPulse(t, bits, width, amplitude, impl.ErrRange)
			}
		}
		for _, width := range []int64{1, 2, longest} {
			for _, amplitude := range notAmplitudes {
				checkNoPulse(t, bits, width, amplitude, impl.ErrRange)
			}
		}
	}
}

func TestTooLongPulses(t *testing.T) {
	for _, c := range []struct {
		bits  int
		width int64
	}{
		{longest, 2}, {longest, longest}, {longest/2 + 1, 2}, {2, longest}, {2, longest/2 + 1}, {longest/4 + 1, 4}, {3, 134}, {longest, 3}, {21, 20}, {20, 21}, {134, 3},
	} {
		checkNoPulse(t, repeated(c.bits, 1, 0), c.width, 1, impl.ErrLimit)
		checkNoPulse(t, repeated(c.bits, 0), c.width, loudest, impl.ErrLimit)
	}
}

func TestEchoCases(t *testing.T) {
	pulse := []int64{1, 2}
	for _, c := range []struct {
		s    scene
		want []int64
	}{
		{scene{pulse, []int64{1, 2}, []int64{3, -1}, 5}, []int64{0, 3, 5, -2, 0}}, // they overlap
		{scene{pulse, []int64{2, 1}, []int64{-1, 3}, 5}, []int64{0, 3, 5, -2, 0}},
		{scene{pulse, []int64{0, 3}, []int64{1, 10}, 5}, []int64{1, 2, 0, 10, 20}}, // from the first to the last sample
		{scene{pulse, []int64{0}, []int64{1}, 2}, []int64{1, 2}},
		{scene{pulse, []int64{3}, []int64{0}, 5}, []int64{0, 0, 0, 0, 0}},
		{scene{pulse, []int64{1, 1, 1}, []int64{1, 1, 1}, 3}, []int64{0, 3, 6}}, // all at one place
		{scene{pulse, []int64{1, 1}, []int64{500, -500}, 4}, []int64{0, 0, 0, 0}},
		{scene{pulse, nil, nil, 3}, []int64{0, 0, 0}},
		{scene{pulse, []int64{}, []int64{}, 0}, nil},
		{scene{pulse, nil, nil, 1}, []int64{0}}, // no echo has to lie within the signal
		{scene{pulse, nil, nil, longest}, repeated(longest, 0)},
		{scene{repeated(longest, 1, -1), []int64{0}, []int64{loudest}, longest}, repeated(longest, loudest, -loudest)},
		{scene{[]int64{1}, []int64{longest - 1}, []int64{-loudest}, longest}, withSample(repeated(longest, 0), longest-1, -loudest)},
		{scene{[]int64{-1}, []int64{0}, []int64{-loudest}, 1}, []int64{loudest}},
		{scene{[]int64{loudest, -loudest}, []int64{1}, []int64{-1}, 4}, []int64{0, -loudest, loudest, 0}},
		// A pulse of no sample lies within each signal.
		{scene{nil, nil, nil, 0}, nil},
		{scene{nil, []int64{0}, []int64{loudest}, 0}, nil},
		{scene{nil, []int64{0, 2, 3}, []int64{1, 2, -loudest}, 3}, []int64{0, 0, 0}},
		{scene{[]int64{}, []int64{longest}, []int64{-loudest}, longest}, repeated(longest, 0)},
		// The greatest number of echoes.
		{scene{[]int64{1}, repeated(impl.MaxList, 2), repeated(impl.MaxList, 5), 4}, []int64{0, 0, 1000, 0}},
		{scene{[]int64{1}, repeated(impl.MaxList, 0, 1), repeated(impl.MaxList, -10, 10), 2}, []int64{-1000, 1000}},
	} {
		checkEchoes(t, c.s, c.want)
	}
}

// TestEchoesAtSampleLimits has sums that reach a limit of a sample and such that exceed it.
func TestEchoesAtSampleLimits(t *testing.T) {
	for _, sign := range []int64{1, -1} {
		checkEchoes(t, scene{[]int64{2}, []int64{0}, []int64{500 * sign}, 1}, []int64{loudest * sign})
		checkNoEchoes(t, scene{[]int64{2}, []int64{0}, []int64{501 * sign}, 1}, impl.ErrLimit)
		checkEchoes(t, scene{[]int64{1, 1}, []int64{0, 1}, []int64{999 * sign, sign}, 3}, []int64{999 * sign, loudest * sign, sign})
		checkNoEchoes(t, scene{[]int64{1, 1}, []int64{0, 1}, []int64{999 * sign, 2 * sign}, 3}, impl.ErrLimit)
		checkNoEchoes(t, scene{[]int64{1, 1}, []int64{0, 1}, []int64{loudest * sign, sign}, 3}, impl.ErrLimit)
		checkNoEchoes(t, scene{[]int64{loudest}, []int64{0}, []int64{loudest * sign}, 1}, impl.ErrLimit)
		checkNoEchoes(t, scene{repeated(longest, loudest), repeated(impl.MaxList, 0), repeated(impl.MaxList, loudest*sign), longest}, impl.ErrLimit)
		// Only the sum of all echoes counts, not what is there before the last one.
		checkEchoes(t, scene{[]int64{loudest}, []int64{0, 0, 0}, []int64{loudest * sign, -loudest * sign, sign}, 1}, []int64{loudest * sign})
		checkEchoes(t, scene{[]int64{1, 1}, []int64{0, 1, 1}, []int64{loudest * sign, loudest * sign, -loudest * sign}, 3}, []int64{loudest * sign, loudest * sign, 0})
		checkNoEchoes(t, scene{[]int64{1, 1}, []int64{0, 1, 1}, []int64{loudest * sign, loudest * sign, (1 - loudest) * sign}, 3}, impl.ErrLimit)
	}
}

// TestAllEchoes has one and two echoes at all places in signals of all small lengths.
func TestAllEchoes(t *testing.T) {
	for _, pulse := range [][]int64{nil, {3}, {-1, 4}, {2, 0, -5}} {
		for length := range int64(6) {
			last := length - int64(len(pulse))
			for first := int64(-2); first <= length+2; first++ {
				s := scene{pulse, []int64{first}, []int64{-7}, length}
				if first < 0 || first > last {
					checkNoEchoes(t, s, impl.ErrRange)
				} else {
					checkEchoes(t, s, s.wanted())
				}
				for second := int64(-2); second <= length+2; second++ {
					s := scene{pulse, []int64{first, second}, []int64{11, -2}, length}
					if min(first, second) < 0 || max(first, second) > last {
						checkNoEchoes(t, s, impl.ErrRange)
					} else {
						checkEchoes(t, s, s.wanted())
					}
				}
			}
		}
	}
}

// TestManyEchoes has uneven pulses with uneven echoes; with great gains some sums exceed the limits.
func TestManyEchoes(t *testing.T) {
	told := map[bool]int{}
	for n := 1; n <= longest; n += 1 + n/4 {
		for _, count := range []int{1, 2, 20, impl.MaxList} {
			for _, scale := range []int64{1, 40, 500} {
				s := scene{pulse: uneven(n, int64(n+count)), length: longest}
				for i := range s.pulse {
					s.pulse[i] /= 40
				}
				for i, x := range uneven(count, int64(n*count)) {
					s.delays = append(s.delays, (x+loudest+int64(i))%int64(longest-n+1))
					s.gains = append(s.gains, x/scale)
				}
				want := s.wanted()
				isSignal := slices.Max(want) <= loudest && slices.Min(want) >= -loudest
				told[isSignal]++
				if isSignal {
					checkEchoes(t, s, want)
				} else {
					checkNoEchoes(t, s, impl.ErrLimit)
				}
			}
		}
	}
	if told[true] < 20 || told[false] < 20 {
		t.Errorf("%d signals with echoes, %d sums that are none", told[true], told[false])
	}
}

// wrongScenes have one error in their numbers, of which each is ErrRange.
func wrongScenes() []scene {
	pulse, most := []int64{1, 2}, impl.MaxList
	list := []scene{
		{pulse, []int64{0, 1}, []int64{1}, 5}, {pulse, []int64{0}, []int64{1, 1}, 5}, {pulse, []int64{0}, nil, 5}, {pulse, nil, []int64{1}, 5},
		{pulse, repeated(most, 0), repeated(most-1, 1), 5}, {pulse, repeated(most-1, 0), repeated(most, 1), 5}, {pulse, repeated(most, 0), repeated(most+1, 1), 5},
		{pulse, repeated(most+1, 0), repeated(most, 1), 5}, {pulse, repeated(most+1, 0), repeated(most+1, 1), 5}, {pulse, repeated(most+1, 0), repeated(most+1, 0), 5},
		{nil, repeated(most+1, 0), repeated(most+1, 0), 0}, {pulse, repeated(5000, 0), repeated(5000, 0), 5},
		// The pulse is longer than the signal.
		{pulse, []int64{0}, []int64{1}, 1}, {pulse, []int64{0}, []int64{0}, 0}, {pulse, []int64{-1}, []int64{0}, 1}, {repeated(longest, 0), []int64{0}, []int64{0}, longest - 1},
		{repeated(longest, 0), []int64{1}, []int64{0}, longest}, {repeated(longest, 0), []int64{-1}, []int64{0}, longest},
	}
	for _, length := range []int64{-1, -2, -longest, longest + 1, longest + 2, math.MaxInt64, math.MinInt64, 1 << 32, 1<<32 + 5} {
		list = append(list, scene{pulse, []int64{0}, []int64{1}, length}, scene{pulse, nil, nil, length}, scene{nil, nil, nil, length})
	}
	for _, gain := range []int64{loudest + 1, -loudest - 1, math.MaxInt64, math.MinInt64, 1 << 32, 1<<32 + 1} {
		list = append(list, scene{pulse, []int64{0}, []int64{gain}, 5}, scene{pulse, []int64{0, 1, 2}, []int64{1, 1, gain}, 5}, scene{pulse, []int64{0, 1}, []int64{gain, 1}, 5},
			scene{[]int64{0}, []int64{0}, []int64{gain}, 1}, scene{nil, []int64{0}, []int64{gain}, 1})
	}
	// Also an echo with the gain 0 has to lie within the signal, and so has one without a sample.
	for _, delay := range []int64{-1, -2, 4, 5, 6, math.MaxInt64, math.MaxInt64 - 1, math.MinInt64, 1 << 32, 1<<32 + 1} {
		list = append(list, scene{pulse, []int64{delay}, []int64{1}, 5}, scene{pulse, []int64{delay}, []int64{0}, 5}, scene{pulse, []int64{0, delay, 1}, []int64{1, 1, 1}, 5}, scene{pulse, []int64{0, delay}, []int64{1, 0}, 5},
			scene{nil, []int64{delay}, []int64{1}, 3})
	}
	return list
}

func TestEchoErrors(t *testing.T) {
	for _, s := range wrongScenes() {
		checkNoEchoes(t, s, impl.ErrRange)
	}
}

// TestOrderOfEchoErrors has scenes with several errors at once.
func TestOrderOfEchoErrors(t *testing.T) {
	good := scene{[]int64{1}, []int64{0}, []int64{1}, 5}
	loud := scene{[]int64{loudest}, []int64{0}, []int64{loudest}, 5}
	for _, pulse := range notSignals() {
		for _, s := range append(wrongScenes(), good, loud) {
			s.pulse = pulse
			checkNoEchoes(t, s, impl.ErrInvalid)
		}
	}
	checkNoEchoes(t, loud, impl.ErrLimit)
	for _, s := range []scene{
		{loud.pulse, loud.delays, loud.gains, longest + 1},
		{loud.pulse, []int64{0, 5}, []int64{loudest, 1}, 5},
		{loud.pulse, []int64{0, -1}, []int64{loudest, 1}, 5},
		{loud.pulse, []int64{0, 1}, []int64{loudest, loudest + 1}, 5},
		{loud.pulse, []int64{0, 1}, []int64{loudest}, 5},
		{loud.pulse, []int64{0}, []int64{loudest, loudest}, 5},
		{loud.pulse, repeated(impl.MaxList+1, 0), repeated(impl.MaxList+1, loudest), 5},
	} {
		checkNoEchoes(t, s, impl.ErrRange)
	}
}

// wantedCode tries the numbers whose n binary digits are the bits, the greatest digit first.
func wantedCode(n int) []int64 {
	var best []int64
	least := int64(math.MaxInt64)
	for number := range 1 << n {
		bits := make([]int64, n)
		for i := range bits {
			bits[n-1-i] = int64(number >> i & 1)
		}
		if sidelobe := wantedSidelobe(wantedPulse(bits, 1, 1)); sidelobe < least {
			best, least = bits, sidelobe
		}
	}
	return best
}

func TestBestCodes(t *testing.T) {
	for i, c := range []struct {
		want     []int64
		sidelobe int64
	}{
		{[]int64{0}, 0},
		{[]int64{0, 0}, 1},
		{[]int64{0, 0, 1}, 1},
		{[]int64{0, 0, 0, 1}, 1},
		{[]int64{0, 0, 0, 1, 0}, 1},
		{[]int64{0, 0, 0, 0, 1, 0}, 2},
		{[]int64{0, 0, 0, 1, 1, 0, 1}, 1},
		{[]int64{0, 0, 0, 0, 1, 0, 1, 1}, 2},
		{[]int64{0, 0, 0, 0, 0, 1, 1, 0, 1}, 2},
		{[]int64{0, 0, 0, 0, 0, 1, 1, 0, 1, 0}, 2},
	} {
		got, code := impl.BestCode(int64(i + 1))
		checkList(t, "BestCode", got, code, c.want)
		checkList(t, "BestCode", got, code, wantedCode(i+1))
		pulse, code := impl.PulseOfBits(got, 1, 1)
		checkList(t, "PulseOfBits", pulse, code, wantedPulse(c.want, 1, 1))
		sidelobe, code := impl.SidelobeOf(pulse)
		checkNumber(t, "SidelobeOf", sidelobe, code, c.sidelobe)
	}
}

func TestBestCodeErrors(t *testing.T) {
	for _, n := range []int64{0, -1, -10, impl.MaxCode + 1, impl.MaxCode + 2, longest, 1 << 32, 1<<32 + 1, math.MaxInt64, math.MinInt64} {
		got, code := impl.BestCode(n)
		checkNoList(t, "BestCode", got, code, impl.ErrRange)
	}
}

// TestBestCodesAtTheSameTime checks that searches keep nothing that another one sees.
func TestBestCodesAtTheSameTime(t *testing.T) {
	var group sync.WaitGroup
	for i := range 20 {
		group.Go(func() {
			n := 1 + i%impl.MaxCode
			got, code := impl.BestCode(int64(n))
			checkList(t, "BestCode", got, code, wantedCode(n))
		})
	}
	group.Wait()
}

// TestPulsesShareNothing checks that no function changes its arguments or what lies behind them, and
// that results that are changed do not change arguments or later results.
func TestPulsesShareNothing(t *testing.T) {
	bits, gains := []int64{1, 0, 1, 7, 7}[:3], []int64{1, 1, 0, 8, 8}[:3]
	signal, delays := []int64{5, -3, 2, 9, 9}[:3], []int64{0, 1, 4, 6, 6}[:3]
	calls := []func() []int64{
		func() []int64 { list, _ := impl.Correlations(signal); return list },
		func() []int64 { list, _ := impl.TurnSignal(signal); return list },
		func() []int64 { list, _ := impl.PulseOfBits(bits, 1, 2); return list },
		func() []int64 { list, _ := impl.PulseOfBits(bits, 2, 1); return list },
		func() []int64 { list, _ := impl.EchoesOf(signal, delays, gains, 7); return list },
		func() []int64 { list, _ := impl.EchoesOf(signal, delays[:1], gains[:1], 3); return list },
		func() []int64 { list, _ := impl.EchoesOf(signal, nil, nil, 3); return list },
		func() []int64 { list, _ := impl.BestCode(5); return list },
	}
	for i, call := range calls {
		first := call()
		want := slices.Clone(first)
		fill(call(), 77)
		if !slices.Equal(first, want) || !slices.Equal(call(), want) || len(want) == 0 {
			t.Errorf("results of call %d share memory", i)
		}
		fill(first, 78)
	}
	impl.IsSignal(signal)
	impl.EnergyOf(signal)
	impl.SidelobeOf(signal)
	for _, c := range []struct{ got, want []int64 }{
		{bits, []int64{1, 0, 1, 7, 7}}, {gains, []int64{1, 1, 0, 8, 8}}, {signal, []int64{5, -3, 2, 9, 9}}, {delays, []int64{0, 1, 4, 6, 6}},
	} {
		if !slices.Equal(c.got[:cap(c.got)], c.want) {
			t.Errorf("%v was changed to %v", c.want, c.got[:cap(c.got)])
		}
	}
}
