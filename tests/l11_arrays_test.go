package tests

import (
	"math"
	"math/big"
	"slices"
	"sync"
	"testing"

	"loop.example/g00915/impl"
)

const (
	mostReceivers = impl.MaxElements
	outermost     = impl.MaxPlace
	mostSamples   = impl.MaxRate
	mostDelay     = 1000000
)

// line is an array with a direction from which a plane wave comes to it.
type line struct {
	places      []int64
	d           impl.Direction
	rate, speed int64
}

// exact returns the exact delay at a place.
func (l line) exact(place int64) *big.Rat {
	delay := big.NewRat(10*l.d.Sin, l.d.Hyp)
	delay.Mul(delay, big.NewRat(place, 1))
	return delay.Mul(delay, big.NewRat(l.rate, l.speed))
}

// wanted returns the delay at a place: twice the exact one plus 1 is halved and rounded down, which
// is one too much for an odd number that is reached exactly.
func (l line) wanted(place int64) int64 {
	twice := new(big.Rat).Mul(l.exact(place), big.NewRat(2, 1))
	twice.Add(twice, big.NewRat(1, 1))
	half := new(big.Int).Div(twice.Num(), new(big.Int).Mul(twice.Denom(), big.NewInt(2))).Int64()
	if half%2 != 0 && twice.Cmp(big.NewRat(2*half, 1)) == 0 {
		half--
	}
	return half
}

func (l line) wantedDelays() []int64 {
	list := make([]int64, len(l.places))
	for i, place := range l.places {
		list[i] = l.wanted(place)
	}
	return list
}

// wantedErrors rounds the opposite number of thousandths down, which is to round that number up.
func (l line) wantedErrors() []int64 {
	list := make([]int64, len(l.places))
	for i, place := range l.places {
		opposite := new(big.Rat).Sub(l.exact(place), big.NewRat(l.wanted(place), 1))
		opposite.Abs(opposite).Neg(opposite)
		opposite.Mul(opposite, big.NewRat(1000, 1))
		list[i] = -new(big.Int).Div(opposite.Num(), opposite.Denom()).Int64()
	}
	return list
}

func (l line) mirrored() line {
	l.d.Sin = -l.d.Sin
	return l
}

// wave is what makes up a plane wave: a pulse, where it begins, and how long the signals are.
type wave struct {
	pulse         []int64
	line          line
	start, length int64
}

func (w wave) made() ([][]int64, int64) {
	return impl.PlaneWave(w.pulse, w.line.places, w.line.d, w.line.rate, w.line.speed, w.start, w.length)
}

// wanted returns the signals sample by sample, and true, or false if a pulse does not lie within its
// signal.
func (w wave) wanted() ([][]int64, bool) {
	var channels [][]int64
	for _, delay := range w.line.wantedDelays() {
		first, behind := w.start+delay, w.start+delay+int64(len(w.pulse))
		if first < 0 || behind > w.length {
			return nil, false
		}
		channel := make([]int64, w.length)
		for k := range w.length {
			if k >= first && k < behind {
				channel[k] = w.pulse[k-first]
			}
		}
		channels = append(channels, channel)
	}
	return channels, true
}

// wantedBeam adds each sample to the element to which its delay brings it.
func wantedBeam(channels [][]int64, delays []int64) []int64 {
	beam := make([]int64, len(channels[0]))
	for i, channel := range channels {
		for k, sample := range channel {
			if at := int64(k) - delays[i]; at >= 0 && at < int64(len(beam)) {
				beam[at] += sample
			}
		}
	}
	return beam
}

func wantedBest(channels [][]int64, l line, directions []impl.Direction) int64 {
	best, greatest := int64(-1), int64(-1)
	for i, d := range directions {
		l.d = d
		if power := wantedEnergy(wantedBeam(channels, l.wantedDelays())); power > greatest {
			best, greatest = int64(i), power
		}
	}
	return best
}

func sameChannels(a, b [][]int64) bool {
	return slices.EqualFunc(a, b, func(x, y []int64) bool { return slices.Equal(x, y) })
}

// checkDelays checks the delays and their errors at all places of a line.
func checkDelays(t *testing.T, l line, delays, errors []int64) {
	t.Helper()
	if got, code := impl.DelaysOf(l.places, l.d, l.rate, l.speed); !slices.Equal(got, delays) || code != impl.ErrNone {
		t.Errorf("DelaysOf(%v) = %v, %d, want %v", l, got, code, delays)
	}
	if got, code := impl.DelayErrors(l.places, l.d, l.rate, l.speed); !slices.Equal(got, errors) || code != impl.ErrNone {
		t.Errorf("DelayErrors(%v) = %v, %d, want %v", l, got, code, errors)
	}
}

func checkNoDelays(t *testing.T, l line, want int64) {
	t.Helper()
	list, code := impl.DelaysOf(l.places, l.d, l.rate, l.speed)
	checkNoList(t, "DelaysOf", list, code, want)
	list, code = impl.DelayErrors(l.places, l.d, l.rate, l.speed)
	checkNoList(t, "DelayErrors", list, code, want)
}

func checkWave(t *testing.T, w wave, want [][]int64) {
	t.Helper()
	if got, code := w.made(); !sameChannels(got, want) || code != impl.ErrNone {
		t.Errorf("PlaneWave(%v) = %v, %d, want %v", w, got, code, want)
	}
}

func checkNoWave(t *testing.T, w wave, want int64) {
	t.Helper()
	if got, code := w.made(); len(got) != 0 || code != want {
		t.Errorf("PlaneWave(%v) = %v, %d, want code %d", w, got, code, want)
	}
}

// checkAnyWave compares a plane wave with the wanted one and reports whether there is one.
func checkAnyWave(t *testing.T, w wave) bool {
	t.Helper()
	want, ok := w.wanted()
	if !ok {
		checkNoWave(t, w, impl.ErrRange)
		return false
	}
	checkWave(t, w, want)
	return true
}

func checkBeam(t *testing.T, channels [][]int64, delays, want []int64) {
	t.Helper()
	if got, code := impl.BeamOf(channels, delays); !slices.Equal(got, want) || code != impl.ErrNone {
		t.Errorf("BeamOf(%v, %v) = %v, %d, want %v", channels, delays, got, code, want)
	}
	power, code := impl.BeamPower(channels, delays)
	checkNumber(t, "BeamPower", power, code, wantedEnergy(want))
}

func checkNoBeam(t *testing.T, channels [][]int64, delays []int64, want int64) {
	t.Helper()
	list, code := impl.BeamOf(channels, delays)
	checkNoList(t, "BeamOf", list, code, want)
	power, code := impl.BeamPower(channels, delays)
	checkNoNumber(t, "BeamPower", power, code, want)
}

// checkBest checks the best beam of a line, whose own direction does not count.
func checkBest(t *testing.T, channels [][]int64, l line, directions []impl.Direction, want int64) {
	t.Helper()
	if got, code := impl.BestBeam(channels, l.places, directions, l.rate, l.speed); got != want || code != impl.ErrNone {
		t.Errorf("BestBeam(%v, %v, %v) = %d, %d, want %d", channels, l, directions, got, code, want)
	}
}

func checkNoBest(t *testing.T, channels [][]int64, l line, directions []impl.Direction, want int64) {
	t.Helper()
	got, code := impl.BestBeam(channels, l.places, directions, l.rate, l.speed)
	checkNoNumber(t, "BestBeam", got, code, want)
}

// oneSamplePer returns a line on which the wave from {4, 3, 5} is delayed by one sample for each 25
// centimetres, divided by div.
func oneSamplePer(div int64, places ...int64) line {
	return line{places: places, d: direction(4, 3, 5), rate: 10000 / div, speed: 1500000}
}

// evenPlaces returns n places in equal steps.
func evenPlaces(first, step int64, n int) []int64 {
	list := make([]int64, n)
	for i := range list {
		list[i] = first + step*int64(i)
	}
	return list
}

func someArrays() [][]int64 {
	return [][]int64{
		{0}, {1}, {-1}, {outermost}, {-outermost}, {-outermost, outermost}, {-1, 0}, {9999, outermost}, {-outermost, -9999}, {-100, 0, 75}, {3, 7, 8, 5000},
		evenPlaces(0, 1, mostReceivers), evenPlaces(-outermost, 1, mostReceivers), evenPlaces(outermost-mostReceivers+1, 1, mostReceivers), evenPlaces(-outermost, 1818, mostReceivers), evenPlaces(-275, 50, mostReceivers), evenPlaces(-7, 13, mostReceivers-1),
	}
}

// notArrays have no or too many receivers, or places that do not rise or are out of range.
func notArrays() [][]int64 {
	return [][]int64{
		nil, {}, evenPlaces(0, 1, mostReceivers+1), evenPlaces(-outermost, 1, mostReceivers+1), evenPlaces(0, 1, 1000), repeated(1000, 0),
		{0, 0}, {5, 5}, {-outermost, -outermost}, {outermost, outermost}, {1, 0}, {outermost, -outermost}, {0, 1, 1}, {0, 0, 1}, {0, 2, 1}, {2, 0, 3}, {-1, -2},
		withSample(evenPlaces(0, 1, mostReceivers), mostReceivers-1, 10), withSample(evenPlaces(0, 1, mostReceivers), 0, 1), withSample(evenPlaces(0, 2, mostReceivers), 6, 9), withSample(evenPlaces(0, 2, mostReceivers), 6, 14),
		{outermost + 1}, {-outermost - 1}, {0, outermost + 1}, {-outermost - 1, 0}, {-outermost - 1, outermost + 1}, {0, outermost, outermost + 1}, {-outermost - 1, -outermost},
		{math.MaxInt64}, {math.MinInt64}, {math.MinInt64, math.MaxInt64}, {math.MaxInt64, math.MinInt64}, {0, 1 << 32}, {-1 << 32, 0}, {-1 << 63, 1},
	}
}

var (
	notRates  = []int64{0, -1, mostSamples + 1, -mostSamples, 1 << 32, 1<<32 + 1, math.MaxInt64, math.MinInt64}
	notSpeeds = []int64{slowest - 1, fastest + 1, 0, 1, -1500000, 1<<32 + 1500000, math.MaxInt64, math.MinInt64}
)

func TestConstantsOfArrays(t *testing.T) {
	if impl.MaxElements != 12 || impl.MaxPlace != 10000 || impl.MaxRate != 100000 || impl.MaxBeams != 40 {
		t.Error("limits of chapter 11")
	}
}

func TestArrays(t *testing.T) {
	for _, places := range someArrays() {
		if !impl.IsArray(places) {
			t.Errorf("IsArray(%v) = false", places)
		}
	}
	for _, places := range notArrays() {
		if impl.IsArray(places) {
			t.Errorf("IsArray(%v) = true", places)
		}
	}
	for n := range 3 * mostReceivers {
		if impl.IsArray(evenPlaces(-50, 3, n)) != (n >= 1 && n <= mostReceivers) {
			t.Errorf("IsArray of %d places = %v", n, n == 0 || n > mostReceivers)
		}
	}
	for x := int64(-3); x <= 3; x++ {
		if impl.IsArray([]int64{outermost + x}) != (x <= 0) || impl.IsArray([]int64{x - outermost}) != (x >= 0) || impl.IsArray([]int64{0, x}) != (x > 0) {
			t.Errorf("an array with a place at %d, or as far beside a limit, is told wrongly", x)
		}
	}
}

func TestDelayCases(t *testing.T) {
	down, flat, steep := direction(4, 3, 5), direction(925, 372, 997), direction(372, 925, 997)
	for _, c := range []struct {
		l              line
		delays, errors []int64
	}{
		{line{[]int64{-100, 0, 75}, down, 10000, 1500000}, []int64{-4, 0, 3}, []int64{0, 0, 0}},
		{line{[]int64{-100, 0, 75}, down, 10000, 1600000}, []int64{-4, 0, 3}, []int64{250, 0, 188}}, // 187.5 rounded up
		{line{[]int64{-100, 0, 75}, direction(4, -3, 5), 10000, 1600000}, []int64{4, 0, -3}, []int64{250, 0, 188}},
		{line{[]int64{-100, 0, 75}, direction(3, 4, 5), 10000, 1500000}, []int64{-5, 0, 4}, []int64{334, 0, 0}}, // 16 / 3
		{line{[]int64{0}, steep, mostSamples, slowest}, []int64{0}, []int64{0}},
		// The limits of places, rates and speeds; the products there are greater than values.
		{line{[]int64{-outermost, outermost}, down, mostSamples, 1500000}, []int64{-4000, 4000}, []int64{0, 0}},
		{line{[]int64{-outermost, outermost}, steep, mostSamples, slowest}, []int64{-7137, 7137}, []int64{205, 205}},
		{line{[]int64{-outermost, outermost}, flat, mostSamples, fastest}, []int64{-2195, 2195}, []int64{181, 181}},
		{line{[]int64{-outermost, outermost}, direction(4, -3, 5), mostSamples, fastest}, []int64{3529, -3529}, []int64{412, 412}},
		{line{[]int64{-outermost, 1, outermost}, steep, 1, slowest}, []int64{0, 0, 0}, []int64{72, 1, 72}},
		{line{[]int64{outermost}, down, 1, fastest}, []int64{0}, []int64{36}},
		// Errors that are little more or less than a whole number of thousandths, and the least one.
		{line{[]int64{1}, direction(924, 43, 925), 1, fastest}, []int64{0}, []int64{1}},
		{line{[]int64{1, 2, 3}, down, 250, 1500000}, []int64{0, 0, 0}, []int64{1, 2, 3}},
		{line{[]int64{1, 2, 3}, down, 250, 1500001}, []int64{0, 0, 0}, []int64{1, 2, 3}},
		{line{[]int64{1, 2, 3}, down, 250, 1499999}, []int64{0, 0, 0}, []int64{2, 3, 4}},
		{line{[]int64{25, 50}, down, 10000, 1499999}, []int64{1, 2}, []int64{1, 1}},
		{line{[]int64{25, 50}, down, 10000, 1500001}, []int64{1, 2}, []int64{1, 1}},
	} {
		checkDelays(t, c.l, c.delays, c.errors)
	}
}

// TestDelaysHalfway has exact delays halfway between two integers, which give the even one, and
// just beside, which give the nearer one.
func TestDelaysHalfway(t *testing.T) {
	l := oneSamplePer(2, -125, -75, -25, 25, 75, 125)
	checkDelays(t, l, []int64{-2, -2, 0, 0, 2, 2}, repeated(6, 500))
	checkDelays(t, l.mirrored(), []int64{2, 2, 0, 0, -2, -2}, repeated(6, 500))
	l.speed = 1500001
	checkDelays(t, l, []int64{-2, -1, 0, 0, 1, 2}, repeated(6, 500))
	checkDelays(t, l.mirrored(), []int64{2, 1, 0, 0, -1, -2}, repeated(6, 500))
	l.speed = 1499999
	checkDelays(t, l, []int64{-3, -2, -1, 1, 2, 3}, repeated(6, 500))
	checkDelays(t, l.mirrored(), []int64{3, 2, 1, -1, -2, -3}, repeated(6, 500))
	l.speed = 1500000
	for _, c := range []struct{ rate, delay, error int64 }{{4999, 50, 10}, {4951, 50, 490}, {4950, 50, 500}, {4949, 49, 490}, {5000, 50, 0}, {5050, 50, 500}, {5051, 51, 490}} {
		l.places, l.rate = []int64{-2500, 2500}, c.rate
		checkDelays(t, l, []int64{-c.delay, c.delay}, repeated(2, c.error))
	}
	for k := int64(-200); k <= 200; k++ {
		checkDelays(t, oneSamplePer(1, 25*k), []int64{k}, []int64{0})
		half := oneSamplePer(2, 25*k)
		if k%2 == 0 {
			checkDelays(t, half, []int64{k / 2}, []int64{0})
		} else {
			checkDelays(t, half, []int64{2 * floorOf(k+1, 4)}, []int64{500})
		}
	}
}

// someLines returns lines of all arrays with many directions, rates and speeds.
func someLines() []line {
	rates, speeds := []int64{1, 7, 48000, 99999, mostSamples}, []int64{slowest, slowest + 1, 1500000, fastest - 1, fastest}
	var list []line
	for i, places := range someArrays() {
		for j, d := range someDirections() {
			for k, rate := range rates {
				list = append(list, line{places, d, rate, speeds[(i+j+k)%len(speeds)]})
			}
		}
	}
	return list
}

// TestAllDelays checks the promise that delays are off by at most half a sample, that their errors
// tell by how much, and that mirrored directions and places have the negative delays.
func TestAllDelays(t *testing.T) {
	for _, l := range someLines() {
		delays, errors := l.wantedDelays(), l.wantedErrors()
		checkDelays(t, l, delays, errors)
		got, _ := impl.DelaysOf(l.places, l.d, l.rate, l.speed)
		off, _ := impl.DelayErrors(l.places, l.d, l.rate, l.speed)
		if len(got) != len(l.places) || len(off) != len(got) {
			t.Fatalf("%v has %d delays and %d errors", l, len(got), len(off))
		}
		for i, delay := range got {
			difference := new(big.Rat).Sub(l.exact(l.places[i]), big.NewRat(delay, 1))
			difference.Abs(difference)
			if difference.Cmp(big.NewRat(1, 2)) > 0 || difference.Cmp(big.NewRat(off[i], 1000)) > 0 || difference.Cmp(big.NewRat(off[i]-1, 1000)) <= 0 || off[i] > 500 {
				t.Errorf("the delay of %v at %d is %d, off by %v, told as %d", l, l.places[i], delay, difference, off[i])
			}
			delays[i] = -delay
		}
		checkDelays(t, l.mirrored(), delays, errors)
		for i := range l.places {
			one := line{[]int64{-l.places[i]}, l.d, l.rate, l.speed}
			checkDelays(t, one, []int64{delays[i]}, []int64{errors[i]})
		}
	}
}

// TestErrorsOfLines has all functions with places, a direction, a rate and a speed: what is not
// valid comes before what is out of range.
func TestErrorsOfLines(t *testing.T) {
	good := oneSamplePer(1, -100, 0, 75)
	check := func(l line, want int64) {
		t.Helper()
		checkNoDelays(t, l, want)
		checkNoWave(t, wave{[]int64{2, -1}, l, 5, 11}, want)
		checkNoWave(t, wave{[]int64{2, -1}, l, -1, 11}, want)
		checkNoWave(t, wave{[]int64{2, -1}, l, 5, longest + 1}, want)
		checkNoBest(t, [][]int64{{1}, {2}, {3}}, l, []impl.Direction{l.d}, want)
		checkNoBest(t, [][]int64{{1}}, l, slices.Repeat([]impl.Direction{l.d}, impl.MaxBeams+1), want)
	}
	wrong := []line{good}
	for _, rate := range notRates {
		wrong = append(wrong, line{good.places, good.d, rate, good.speed}, line{good.places, good.d, rate, slowest - 1})
	}
	for _, speed := range notSpeeds {
		wrong = append(wrong, line{good.places, good.d, good.rate, speed}, line{good.places, good.d, mostSamples + 1, speed})
	}
	for _, l := range wrong {
		for _, places := range notArrays() {
			check(line{places, l.d, l.rate, l.speed}, impl.ErrInvalid)
		}
		for _, d := range append(invalidDirections, direction(1, 0, 1)) { // straight ahead too
			check(line{l.places, d, l.rate, l.speed}, impl.ErrInvalid)
			check(line{nil, d, l.rate, l.speed}, impl.ErrInvalid)
		}
	}
	for _, l := range wrong[1:] {
		check(l, impl.ErrRange)
		check(line{[]int64{0}, l.d, l.rate, l.speed}, impl.ErrRange)
	}
}

func TestWaveCases(t *testing.T) {
	l, one := oneSamplePer(1, -100, 0, 75), oneSamplePer(1, -100)
	for _, c := range []struct {
		w    wave
		want [][]int64
	}{
		{wave{[]int64{2, -1}, l, 5, 11}, [][]int64{{0, 2, -1, 0, 0, 0, 0, 0, 0, 0, 0}, {0, 0, 0, 0, 0, 2, -1, 0, 0, 0, 0}, {0, 0, 0, 0, 0, 0, 0, 0, 2, -1, 0}}},
		// Pulses that begin with the first sample and end with the last one.
		{wave{[]int64{2, -1}, l, 4, 9}, [][]int64{{2, -1, 0, 0, 0, 0, 0, 0, 0}, {0, 0, 0, 0, 2, -1, 0, 0, 0}, {0, 0, 0, 0, 0, 0, 0, 2, -1}}},
		{wave{[]int64{2, -1}, l.mirrored(), 3, 9}, [][]int64{{0, 0, 0, 0, 0, 0, 0, 2, -1}, {0, 0, 0, 2, -1, 0, 0, 0, 0}, {2, -1, 0, 0, 0, 0, 0, 0, 0}}},
		{wave{[]int64{7}, oneSamplePer(1, 0), 0, 1}, [][]int64{{7}}},
		{wave{[]int64{7}, one, 4, 1}, [][]int64{{7}}},
		{wave{[]int64{7}, one.mirrored(), 0, 5}, [][]int64{{0, 0, 0, 0, 7}}},
		{wave{[]int64{7, 0}, one, 5, 3}, [][]int64{{0, 7, 0}}},
		// Pulses of no sample lie where they would begin, also just behind the last sample.
		{wave{nil, l, 4, 7}, [][]int64{repeated(7, 0), repeated(7, 0), repeated(7, 0)}},
		{wave{[]int64{}, oneSamplePer(1, 0), 0, 0}, [][]int64{{}}},
		{wave{nil, oneSamplePer(1, 1, 2, 3), 0, 0}, [][]int64{{}, {}, {}}},
		{wave{nil, one, 4, 0}, [][]int64{{}}},
		{wave{nil, oneSamplePer(1, 0), longest, longest}, [][]int64{repeated(longest, 0)}},
		// The greatest lengths and starts.
		{wave{uneven(longest, 3), oneSamplePer(1, -1, 0, 1), 0, longest}, [][]int64{uneven(longest, 3), uneven(longest, 3), uneven(longest, 3)}},
		{wave{uneven(longest, 4), one, 4, longest}, [][]int64{uneven(longest, 4)}},
		{wave{[]int64{5}, oneSamplePer(1, 0), longest - 1, longest}, [][]int64{withSample(repeated(longest, 0), longest-1, 5)}},
		{wave{[]int64{1, 2, 3, 4}, one, longest, longest}, [][]int64{append(repeated(longest-4, 0), 1, 2, 3, 4)}},
		{wave{[]int64{1}, oneSamplePer(1, -10000), longest, longest}, [][]int64{withSample(repeated(longest, 0), 0, 1)}},
		{wave{[]int64{-loudest, loudest}, oneSamplePer(1, 9950), 0, longest}, [][]int64{append(repeated(longest-2, 0), -loudest, loudest)}},
	} {
		checkWave(t, c.w, c.want)
	}
}

// TestWaveErrors has pulses that leave their signals, starts and lengths out of range, and pulses
// that are no signals, which come first.
func TestWaveErrors(t *testing.T) {
	l, one, here := oneSamplePer(1, -100, 0, 75), oneSamplePer(1, -100), oneSamplePer(1, 0)
	for _, w := range []wave{
		{[]int64{2, -1}, l, 3, 11}, {[]int64{2, -1}, l, 4, 8}, {[]int64{2, -1}, l.mirrored(), 2, 11}, {[]int64{2, -1}, l.mirrored(), 3, 8}, {[]int64{0}, l, 3, 11}, {[]int64{0}, l, 4, 7},
		{[]int64{7}, here, 0, 0}, {[]int64{7}, here, 1, 1}, {[]int64{7}, here, longest, longest}, {[]int64{7, 7}, here, 0, 1}, {[]int64{7}, one, 3, longest}, {[]int64{7}, one, 5, 1},
		{[]int64{1, 2, 3, 4, 5}, one, longest, longest}, {uneven(longest, 3), here, 0, longest - 1}, {uneven(longest, 3), here, 1, longest}, {uneven(longest, 3), one, 3, longest}, {uneven(longest, 3), one, 5, longest}, {uneven(longest, 3), here, 0, 0},
		{nil, l, 3, 7}, {nil, l, 4, 6}, {nil, here, 1, 0}, {nil, here, longest, longest - 1}, {nil, one, 3, longest}, {nil, one, 5, 0},
		{[]int64{1}, line{[]int64{outermost}, direction(372, 925, 997), mostSamples, slowest}, 0, longest}, {[]int64{1}, line{[]int64{-outermost}, direction(372, 925, 997), mostSamples, slowest}, longest, longest},
	} {
		checkNoWave(t, w, impl.ErrRange)
	}
	checkWave(t, wave{[]int64{1}, here, 0, 1}, [][]int64{{1}})
	for _, x := range []int64{-1, longest + 1, -longest, 1 << 32, 1<<32 + 1, math.MaxInt64, math.MinInt64} {
		for _, pulse := range [][]int64{nil, {1}, uneven(longest, 3)} {
			for _, place := range []int64{0, -100, 100} {
				for _, good := range []int64{0, 4, longest} {
					checkNoWave(t, wave{pulse, oneSamplePer(1, place), x, good}, impl.ErrRange)
					checkNoWave(t, wave{pulse, oneSamplePer(1, place), good, x}, impl.ErrRange)
				}
				checkNoWave(t, wave{pulse, oneSamplePer(1, place), x, x}, impl.ErrRange)
				checkNoWave(t, wave{pulse, oneSamplePer(1, place), x, -x}, impl.ErrRange)
			}
		}
	}
	for _, pulse := range notSignals() {
		for _, rate := range []int64{1, mostSamples, 0, mostSamples + 1} {
			for _, start := range []int64{0, 4, longest, -1, longest + 1} {
				for _, length := range []int64{0, longest, -1, longest + 1} {
					checkNoWave(t, wave{pulse, line{[]int64{0}, l.d, rate, l.speed}, start, length}, impl.ErrInvalid)
				}
			}
		}
	}
}

func TestAllWaves(t *testing.T) {
	made := map[bool]int{}
	for i, l := range someLines() {
		if i%7 != 0 {
			continue
		}
		pulse := uneven(i%5, int64(i))
		for _, start := range []int64{0, 1, 57, 200, longest} {
			for _, length := range []int64{0, 3, 60, 203, longest - 1, longest} {
				made[checkAnyWave(t, wave{pulse, l, start, length})]++
			}
		}
	}
	if made[true] < 1000 || made[false] < 1000 {
		t.Errorf("%d plane waves, %d pulses that leave their signals", made[true], made[false])
	}
	l := oneSamplePer(1, -100, 0, 75)
	for start := range int64(15) {
		for length := range int64(15) {
			for n := range 5 {
				checkAnyWave(t, wave{uneven(n, 9), l, start, length})
				checkAnyWave(t, wave{uneven(n, 9), l.mirrored(), start, length})
			}
		}
	}
}

// someChannels returns channels of few and of many samples and signals.
func someChannels() [][][]int64 {
	list := [][][]int64{
		{{}}, {nil}, {nil, {}, nil}, slices.Repeat([][]int64{nil}, mostReceivers), {{5}}, {{0}}, {{loudest}, {-loudest}}, {{1, 2, 3}, {10, 20, 30}}, {{1, 2, 3, 4}, {-1, -2, -3, -4}},
		slices.Repeat([][]int64{repeated(longest, loudest)}, mostReceivers), slices.Repeat([][]int64{repeated(longest, -loudest)}, mostReceivers), slices.Repeat([][]int64{{1, -1}}, mostReceivers),
	}
	for _, n := range []int{1, 2, 5, 99, 100, 101, 199, 200, 201, 300, 301, longest - 1, longest} {
		var channels [][]int64
		for i := range 1 + n%mostReceivers {
			channels = append(channels, uneven(n, int64(10*n+i)))
		}
		list = append(list, channels)
	}
	return list
}

// notChannels are no or too many lists, lists of unequal lengths, and lists that are no signals.
func notChannels() [][][]int64 {
	list := [][][]int64{
		nil, {}, slices.Repeat([][]int64{{1}}, mostReceivers+1), slices.Repeat([][]int64{nil}, mostReceivers+1), slices.Repeat([][]int64{{}}, 1000),
		{{1}, {}}, {{}, {1}}, {nil, {1}}, {{1, 2}, {1}}, {{1}, {1, 2}}, {{1}, {2}, {3, 4}}, {{1}, {2, 3}, {4}}, {{1, 2}, {3}, {4}}, {repeated(longest, 1), repeated(longest-1, 1)},
		append(slices.Repeat([][]int64{{1, 2}}, mostReceivers-1), []int64{1}), slices.Repeat([][]int64{repeated(longest+1, 1)}, 2),
	}
	for _, signal := range notSignals() {
		good := make([]int64, len(signal))
		list = append(list, [][]int64{signal}, [][]int64{good, signal}, [][]int64{signal, good}, append(slices.Repeat([][]int64{good}, mostReceivers-1), signal))
	}
	return list
}

func TestChannels(t *testing.T) {
	for _, channels := range someChannels() {
		if !impl.AreChannels(channels) {
			t.Errorf("AreChannels(%v) = false", channels)
		}
	}
	for _, channels := range notChannels() {
		if impl.AreChannels(channels) {
			t.Errorf("AreChannels(%v) = true", channels)
		}
		zeros := make([]int64, len(channels))
		for _, delays := range [][]int64{zeros, nil, {0}, {mostDelay + 1}, append(zeros, 1)} {
			checkNoBeam(t, channels, delays, impl.ErrInvalid)
		}
		for _, l := range []line{oneSamplePer(1, 0), oneSamplePer(1, 0, 1), oneSamplePer(20000, 0), {nil, direction(4, 3, 5), 1, slowest}, {[]int64{0}, impl.Direction{}, 1, slowest - 1}} {
			for _, directions := range [][]impl.Direction{nil, {l.d}, slices.Repeat([]impl.Direction{l.d}, impl.MaxBeams+1)} {
				checkNoBest(t, channels, l, directions, impl.ErrInvalid)
			}
		}
	}
	for n := range 3 * mostReceivers {
		if impl.AreChannels(slices.Repeat([][]int64{{1, -1}}, n)) != (n >= 1 && n <= mostReceivers) {
			t.Errorf("AreChannels of %d signals = %v", n, n == 0 || n > mostReceivers)
		}
	}
}

func TestBeamCases(t *testing.T) {
	two := [][]int64{{1, 2, 3}, {10, 20, 30}}
	for _, c := range []struct {
		channels     [][]int64
		delays, want []int64
	}{
		{two, []int64{0, 0}, []int64{11, 22, 33}}, {two, []int64{1, 0}, []int64{12, 23, 30}}, {two, []int64{0, 1}, []int64{21, 32, 3}}, {two, []int64{-1, 0}, []int64{10, 21, 32}}, {two, []int64{0, -1}, []int64{1, 12, 23}},
		{two, []int64{2, -2}, []int64{3, 0, 10}}, {two, []int64{-2, 2}, []int64{30, 0, 1}}, {two, []int64{1, 1}, []int64{22, 33, 0}}, {two, []int64{-1, -1}, []int64{0, 11, 22}},
		// Delays that leave one sample or none of a channel.
		{two, []int64{3, 0}, []int64{10, 20, 30}}, {two, []int64{-3, 0}, []int64{10, 20, 30}}, {two, []int64{3, 2}, []int64{30, 0, 0}}, {two, []int64{-3, -2}, []int64{0, 0, 10}}, {two, []int64{3, -3}, []int64{0, 0, 0}}, {two, []int64{4, -4}, []int64{0, 0, 0}},
		{two, []int64{mostDelay, 0}, []int64{10, 20, 30}}, {two, []int64{0, -mostDelay}, []int64{1, 2, 3}}, {two, []int64{-mostDelay, mostDelay}, []int64{0, 0, 0}},
		{[][]int64{{5}}, []int64{0}, []int64{5}}, {[][]int64{{5}}, []int64{1}, []int64{0}}, {[][]int64{{5}}, []int64{-1}, []int64{0}}, {[][]int64{{-7, 8, -9}}, []int64{1}, []int64{8, -9, 0}},
		{[][]int64{{}}, []int64{0}, nil}, {[][]int64{nil, {}}, []int64{mostDelay, -mostDelay}, nil},
		{[][]int64{{5, -5}, {-5, 5}}, []int64{0, 0}, []int64{0, 0}}, {[][]int64{{0, 0}, {0, 0}}, []int64{0, 1}, []int64{0, 0}}, // no power
		{slices.Repeat([][]int64{repeated(longest, loudest)}, mostReceivers), repeated(mostReceivers, 0), repeated(longest, mostReceivers*loudest)},
		{slices.Repeat([][]int64{repeated(longest, -loudest)}, mostReceivers), repeated(mostReceivers, longest-1), withSample(repeated(longest, 0), 0, -mostReceivers*loudest)},
		{slices.Repeat([][]int64{repeated(longest, -loudest)}, mostReceivers), repeated(mostReceivers, 1-longest), withSample(repeated(longest, 0), longest-1, -mostReceivers*loudest)},
		{slices.Repeat([][]int64{repeated(longest, loudest)}, mostReceivers), repeated(mostReceivers, longest, -longest), repeated(longest, 0)},
	} {
		checkBeam(t, c.channels, c.delays, c.want)
	}
	power, code := impl.BeamPower(slices.Repeat([][]int64{repeated(longest, -loudest)}, mostReceivers), repeated(mostReceivers, 0))
	checkNumber(t, "BeamPower", power, code, 57600000000)
}

func TestAllBeams(t *testing.T) {
	for i, channels := range someChannels() {
		for seed := range int64(40) {
			delays := uneven(len(channels), seed+int64(i))
			for k := range delays {
				delays[k] = delays[k] * (seed % 5) / 3
				if seed%4 == 0 {
					delays[k] /= 200
				}
			}
			checkBeam(t, channels, delays, wantedBeam(channels, delays))
		}
		for delay := int64(-longest - 1); delay <= longest+1; delay += 1 + int64(i) {
			delays := repeated(len(channels), delay, -delay, 0)
			checkBeam(t, channels, delays, wantedBeam(channels, delays))
		}
	}
}

func TestBeamErrors(t *testing.T) {
	for _, channels := range someChannels() {
		n := len(channels)
		for _, m := range []int{0, n - 1, n + 1, 2 * n, mostReceivers + 1} {
			if m != n {
				checkNoBeam(t, channels, repeated(m, 0), impl.ErrRange)
			}
		}
		for _, x := range []int64{mostDelay + 1, -mostDelay - 1, 1 << 32, -1 << 32, math.MaxInt64, math.MinInt64} {
			for i := range n {
				checkNoBeam(t, channels, withSample(repeated(n, 0), i, x), impl.ErrRange)
			}
			checkNoBeam(t, channels, repeated(n+1, x), impl.ErrRange)
		}
		for _, x := range []int64{mostDelay, -mostDelay, mostDelay - 1} {
			checkBeam(t, channels, repeated(n, x), repeated(len(channels[0]), 0))
		}
	}
}

// someWaves returns plane waves whose pulse would also lie within a signal without a delay.
func someWaves() []wave {
	pulses := [][]int64{{1}, {-5}, {2, -1}, {1, 1, -1}, {3, -5, 2, 7}, {loudest, loudest, -loudest, loudest}, {0, 0}, nil, uneven(9, 4), uneven(40, 5)}
	var list []wave
	for i, places := range [][]int64{{0}, {300}, {-100, 0, 75}, {-100, 100}, {1, 2}, evenPlaces(-275, 50, mostReceivers), evenPlaces(-11, 2, mostReceivers), evenPlaces(0, 25, 5)} {
		for j, pulse := range pulses {
			for _, d := range []impl.Direction{direction(4, 3, 5), direction(4, -3, 5), direction(24, 7, 25), direction(7, -24, 25), direction(924, 43, 925)} {
				start := int64(40 + i + j)
				list = append(list, wave{pulse, line{places, d, 10000, 1500000}, start, start + int64(len(pulse)) + 40})
			}
		}
	}
	return list
}

// checkOwnBeam checks that the beam of a plane wave with its own delays is the pulse as often as
// there are receivers, and returns its power.
func checkOwnBeam(t *testing.T, w wave, channels [][]int64, delays []int64) int64 {
	t.Helper()
	n := int64(len(channels))
	want := make([]int64, w.length)
	for i, sample := range w.pulse {
		want[w.start+int64(i)] = n * sample
	}
	checkBeam(t, channels, delays, want)
	power, code := impl.BeamPower(channels, delays)
	checkNumber(t, "BeamPower", power, code, n*n*wantedEnergy(w.pulse))
	return power
}

func TestOwnBeamHasTheMostPower(t *testing.T) {
	for i, w := range someWaves() {
		channels, code := w.made()
		delays, told := impl.DelaysOf(w.line.places, w.line.d, w.line.rate, w.line.speed)
		if code != impl.ErrNone || told != impl.ErrNone {
			t.Fatalf("PlaneWave(%v) has code %d, its delays %d", w, code, told)
		}
		own := checkOwnBeam(t, w, channels, delays)
		for seed := range int64(60) {
			other := uneven(len(delays), seed+int64(i))
			for k := range other {
				other[k] = delays[k] + other[k]*(seed%4)/1000
				if seed%3 == 0 {
					other[k] = delays[k] + seed - 30
				}
			}
			if power, code := impl.BeamPower(channels, other); power > own || code != impl.ErrNone {
				t.Errorf("the power of %v with %v is %d, %d, with its own delays %d", w, other, power, code, own)
			}
		}
		for _, d := range someDirections() {
			other, _ := impl.DelaysOf(w.line.places, d, w.line.rate, w.line.speed)
			if power, code := impl.BeamPower(channels, other); power > own || code != impl.ErrNone {
				t.Errorf("the power of %v from %v is %d, %d, from its own direction %d", w, d, power, code, own)
			}
		}
	}
}

// TestNoDelaysGiveMorePower has all delays near the own ones.
func TestNoDelaysGiveMorePower(t *testing.T) {
	for _, pulse := range [][]int64{{1}, {2, -1}, {1, 1, 1}, {1, -1, 1, 1}, {5, 0, 0, 0, -9}} {
		w := wave{pulse, oneSamplePer(1, -50, 0, 75), 8, 20}
		channels, _ := w.made()
		own := checkOwnBeam(t, w, channels, []int64{-2, 0, 3})
		for a := int64(-9); a <= 9; a++ {
			for b := int64(-9); b <= 9; b++ {
				for c := int64(-9); c <= 9; c++ {
					power, code := impl.BeamPower(channels, []int64{a, b, c})
					// Only delays that are all off by the same number can give the same power.
					isSame := a+2 == b && b == c-3
					if code != impl.ErrNone || power > own || power == own && !isSame {
						t.Errorf("the power of %v with %d, %d, %d is %d, %d, with its own delays %d", pulse, a, b, c, power, code, own)
					}
				}
			}
		}
	}
}

// TestWavesThatStartBehind has plane waves that lie within their signals only because of their
// delays, so that the beam has not as many elements as the pulse would need.
func TestWavesThatStartBehind(t *testing.T) {
	w := wave{[]int64{3, 4}, oneSamplePer(1, -100, -75), 7, 6}
	channels, code := w.made()
	if !sameChannels(channels, [][]int64{{0, 0, 0, 3, 4, 0}, {0, 0, 0, 0, 3, 4}}) || code != impl.ErrNone {
		t.Fatalf("PlaneWave(%v) = %v, %d", w, channels, code)
	}
	checkBeam(t, channels, []int64{-4, -3}, repeated(6, 0))
	checkBeam(t, channels, []int64{-2, -1}, []int64{0, 0, 0, 0, 0, 6})
	checkBeam(t, channels, []int64{-1, 0}, []int64{0, 0, 0, 0, 6, 8})
}

func TestBestBeamCases(t *testing.T) {
	l := oneSamplePer(1, -100, 0, 75)
	own, back, steep, flat := direction(4, 3, 5), direction(4, -3, 5), direction(3, -4, 5), direction(24, 7, 25)
	channels, _ := wave{[]int64{2, -1}, l, 5, 11}.made()
	for _, c := range []struct {
		directions []impl.Direction
		want       int64
	}{
		{[]impl.Direction{own}, 0}, {[]impl.Direction{back}, 0}, {[]impl.Direction{steep, own}, 1}, {[]impl.Direction{own, steep}, 0}, {[]impl.Direction{back, steep, flat, own}, 3}, {[]impl.Direction{back, own, flat, own, own}, 1},
		{[]impl.Direction{steep, back, steep}, 0}, {[]impl.Direction{back, flat, steep, flat}, 1}, // the powers are 5 but for that of flat, which is 15
		{append(slices.Repeat([]impl.Direction{back}, impl.MaxBeams-1), own), impl.MaxBeams - 1}, {slices.Repeat([]impl.Direction{own}, impl.MaxBeams), 0}, {append(slices.Repeat([]impl.Direction{back}, impl.MaxBeams-2), own, own), impl.MaxBeams - 2},
	} {
		checkBest(t, channels, l, c.directions, c.want)
	}
	// All directions give the same power: at one receiver in the middle, and without power.
	all := []impl.Direction{steep, own, back, flat}
	checkBest(t, [][]int64{{1, 2, 3}}, oneSamplePer(1, 0), all, 0)
	checkBest(t, [][]int64{{0, 0}, {0, 0}, {0, 0}}, l, all, 0)
	checkBest(t, [][]int64{{}, nil, {}}, l, all, 0)
	checkBest(t, [][]int64{{5, -5}, {-5, 5}}, oneSamplePer(1, -1, 1), all, 0)
	// At one receiver aside, the delays leave more or less of its signal.
	checkBest(t, [][]int64{{0, 1, 0, 0, 2}}, oneSamplePer(1, 100), []impl.Direction{back, flat, own}, 1)
	checkBest(t, [][]int64{{0, 1, 0, 0, 2}}, oneSamplePer(1, 50), []impl.Direction{back, own}, 1)
	checkBest(t, [][]int64{{2, 0, 0, 1, 0}}, oneSamplePer(1, 50), []impl.Direction{own, back}, 1)
}

// someFans returns lists of up to MaxBeams directions.
func someFans() [][]impl.Direction {
	var fans [][]impl.Direction
	all := someDirections()
	for n := 1; n <= impl.MaxBeams; n += 3 {
		var fan []impl.Direction
		for i := range n {
			fan = append(fan, all[(i*37+n*11)%len(all)])
		}
		fans = append(fans, fan)
	}
	return fans
}

func TestAllBestBeams(t *testing.T) {
	fans := someFans()
	for i, channels := range someChannels() {
		for _, places := range someArrays() {
			if len(places) != len(channels) {
				continue
			}
			for j, fan := range fans {
				l := line{places, fan[0], 1 + int64(i*j)*mostSamples/1000, slowest + int64(i+j)*10000}
				checkBest(t, channels, l, fan, wantedBest(channels, l, fan))
			}
		}
	}
	for i, w := range someWaves() {
		channels, _ := w.made()
		fan := slices.Clone(fans[i%len(fans)])
		fan[len(fan)/2] = w.line.d
		checkBest(t, channels, w.line, fan, wantedBest(channels, w.line, fan))
		best, code := impl.BestBeam(channels, w.line.places, fan, w.line.rate, w.line.speed)
		if code != impl.ErrNone || best < 0 || best > int64(len(fan)/2) {
			t.Fatalf("BestBeam of %v from %v = %d, %d", w, fan, best, code)
		}
		delays, _ := impl.DelaysOf(w.line.places, fan[best], w.line.rate, w.line.speed)
		n := int64(len(channels))
		power, code := impl.BeamPower(channels, delays)
		checkNumber(t, "BeamPower", power, code, n*n*wantedEnergy(w.pulse))
		for k, d := range fan {
			delays, _ := impl.DelaysOf(w.line.places, d, w.line.rate, w.line.speed)
			if other, _ := impl.BeamPower(channels, delays); other > power || other == power && int64(k) < best {
				t.Errorf("BestBeam of %v from %v = %d, but %d has the power %d", w, fan, best, k, other)
			}
		}
	}
}

// TestBestBeamErrors has the errors in their order; those of lines and channels are checked above.
func TestBestBeamErrors(t *testing.T) {
	l := oneSamplePer(1, -100, 0, 75)
	three := [][]int64{{1, 2}, {3, 4}, {5, 6}}
	good := []impl.Direction{l.d, direction(3, -4, 5)}
	tooMany := slices.Repeat(good, impl.MaxBeams/2+1)[:impl.MaxBeams+1]
	checkNoBest(t, three, l, nil, impl.ErrNotFound)
	checkNoBest(t, three, l, []impl.Direction{}, impl.ErrNotFound)
	checkNoBest(t, three, l, tooMany, impl.ErrRange)
	checkNoBest(t, three, l, slices.Repeat(good, 1000), impl.ErrRange)
	for _, channels := range [][][]int64{three[:1], three[:2], {{1}, {2}, {3}, {4}}, slices.Repeat([][]int64{nil}, mostReceivers)} {
		for _, directions := range [][]impl.Direction{nil, good, tooMany} {
			checkNoBest(t, channels, l, directions, impl.ErrRange)
		}
	}
	for _, d := range append(invalidDirections, direction(1, 0, 1)) {
		for i := range 3 {
			checkNoBest(t, three, l, slices.Insert(slices.Clone(good), i, d), impl.ErrInvalid)
			checkNoBest(t, three[:2], l, slices.Insert(slices.Clone(good), i, d), impl.ErrInvalid)
		}
		checkNoBest(t, three, l, append(slices.Clone(tooMany), d), impl.ErrInvalid)
	}
	for _, rate := range notRates {
		for _, directions := range [][]impl.Direction{nil, good, tooMany} {
			checkNoBest(t, three, line{l.places, l.d, rate, l.speed}, directions, impl.ErrRange)
			checkNoBest(t, three, line{notArrays()[0], l.d, rate, l.speed}, directions, impl.ErrInvalid)
		}
	}
	for _, speed := range notSpeeds {
		checkNoBest(t, three, line{l.places, l.d, l.rate, speed}, nil, impl.ErrRange)
	}
	for _, places := range notArrays() {
		checkNoBest(t, three, line{places, l.d, l.rate, l.speed}, nil, impl.ErrInvalid)
		checkNoBest(t, three, line{places, l.d, l.rate, l.speed}, tooMany, impl.ErrInvalid)
	}
}

// TestBeamsAtTheSameTime checks that calls disturb no other ones, and that beams are whole when they
// are returned.
func TestBeamsAtTheSameTime(t *testing.T) {
	var channels [][]int64
	for i := range int64(mostReceivers) {
		channels = append(channels, uneven(longest, i))
	}
	l, fan := line{evenPlaces(-275, 50, mostReceivers), direction(4, 3, 5), 48000, 1500000}, someFans()[5]
	best := wantedBest(channels, l, fan)
	var group sync.WaitGroup
	for i := range int64(20) {
		group.Go(func() {
			delays := repeated(mostReceivers, i, -2*i, 3*i)
			want := wantedBeam(channels, delays)
			for range 20 {
				checkBeam(t, channels, delays, want)
			}
			checkBest(t, channels, l, fan, best)
		})
	}
	group.Wait()
}

// TestArraysShareNothing checks that no function changes its arguments or what lies behind them,
// and that results that are changed do not change arguments, each other or later results.
func TestArraysShareNothing(t *testing.T) {
	places, pulse, delays := []int64{-100, 0, 75, 9, 9}[:3], []int64{2, -1, 7, 7}[:2], []int64{-4, 0, 3, 8}[:3]
	one := [][]int64{[]int64{5, 6, 7, 1, 1}[:3], {9, 9, 9}}[:1]
	directions := []impl.Direction{direction(4, 3, 5), direction(3, -4, 5), {Cos: 1}}[:2]
	l := line{places, directions[0], 10000, 1500000}
	channels, _ := wave{pulse, l, 5, 11}.made()
	calls := []func() []int64{
		func() []int64 { list, _ := impl.DelaysOf(places, l.d, l.rate, l.speed); return list },
		func() []int64 { list, _ := impl.DelayErrors(places, l.d, l.rate, 1600000); return list },
		func() []int64 { list, _ := impl.BeamOf(channels, delays); return list },
		func() []int64 { list, _ := impl.BeamOf(one, delays[1:2]); return list },
		func() []int64 { list, _ := wave{pulse, l, 5, 11}.made(); return list[1] },
		func() []int64 { list, _ := wave{pulse, oneSamplePer(1, 0), 0, 2}.made(); return list[0] },
	}
	for i, call := range calls {
		first := call()
		want := slices.Clone(first)
		fill(call(), 77)
		if !slices.Equal(first, want) || !slices.Equal(call(), want) || len(want) == 0 {
			t.Errorf("results of call %d share memory", i)
		}
		fill(first, 78)
	}
	impl.BeamPower(channels, delays)
	impl.BeamPower(one, delays[1:2])
	impl.BestBeam(channels, places, directions, l.rate, l.speed)
	for i := range channels {
		want := slices.Clone(channels)
		for k := range want {
			want[k] = slices.Clone(channels[k])
		}
		fill(channels[i], 79)
		want[i] = repeated(11, 79)
		if !sameChannels(channels, want) {
			t.Errorf("the signals of a plane wave share memory: %v", channels)
		}
	}
	for _, c := range []struct{ got, want []int64 }{
		{places, []int64{-100, 0, 75, 9, 9}}, {pulse, []int64{2, -1, 7, 7}}, {delays, []int64{-4, 0, 3, 8}}, {one[0], []int64{5, 6, 7, 1, 1}}, {one[:2][1], []int64{9, 9, 9}},
	} {
		if !slices.Equal(c.got[:cap(c.got)], c.want) {
			t.Errorf("%v was changed to %v", c.want, c.got[:cap(c.got)])
		}
	}
	if !slices.Equal(directions[:3], []impl.Direction{direction(4, 3, 5), direction(3, -4, 5), {Cos: 1}}) {
		t.Errorf("the directions were changed to %v", directions[:3])
	}
}
