package tests

import (
	"fmt"
	"math/big"
	"slices"
	"sync"
	"testing"

	"loop.example/g00915/impl"
)

const (
	reach     = impl.MaxReach
	quickStep = impl.MaxStep
	widest    = impl.MaxSpread
	mostSeen  = impl.MaxContacts
	mostAhead = 100
)

// motion is short for the motion with these numbers in their order.
func motion(x, y, vx, vy, spread int64) impl.Motion {
	return impl.Motion{X: x, Y: y, VX: vx, VY: vy, Spread: spread}
}

// gate is short for the motion with this point and spread that stays where it is.
func gate(x, y, spread int64) impl.Motion {
	return motion(x, y, 0, 0, spread)
}

func contact(x, y int64) impl.Contact {
	return impl.Contact{X: x, Y: y}
}

// contactsAt returns the contacts whose coordinates are given one pair behind the other.
func contactsAt(coordinates ...int64) []impl.Contact {
	var list []impl.Contact
	for pair := range slices.Chunk(coordinates, 2) {
		list = append(list, contact(pair[0], pair[1]))
	}
	return list
}

// wantedCost returns the square of the distance of a contact from the point of a motion.
func wantedCost(m impl.Motion, c impl.Contact) int64 {
	east, north := big.NewInt(c.X-m.X), big.NewInt(c.Y-m.Y)
	east.Mul(east, east)
	return east.Add(east, north.Mul(north, north)).Int64()
}

// wantedIn reports whether the distance that belongs to the cost, rounded up, is at most the spread.
func wantedIn(m impl.Motion, c impl.Contact) bool {
	cost := big.NewInt(wantedCost(m, c))
	distance := new(big.Int).Sqrt(cost)
	if new(big.Int).Mul(distance, distance).Cmp(cost) < 0 {
		distance.Add(distance, big.NewInt(1))
	}
	return distance.Cmp(big.NewInt(m.Spread)) <= 0
}

// wantedMeet reports whether the point that divides the way between two motions as their spreads do
// lies in both gates: if they have any point in common, it is one.
func wantedMeet(a, b impl.Motion) bool {
	part := new(big.Rat)
	if a.Spread > 0 {
		part.SetFrac64(a.Spread, a.Spread+b.Spread)
	}
	way := new(big.Rat).SetInt64(wantedCost(a, contact(b.X, b.Y)))
	fromA, fromB := part, new(big.Rat).Sub(big.NewRat(1, 1), part)
	isIn := func(share *big.Rat, spread int64) bool {
		square := new(big.Rat).Mul(share, share)
		return square.Mul(square, way).Cmp(new(big.Rat).SetInt64(spread*spread)) <= 0
	}
	return isIn(fromA, a.Spread) && isIn(fromB, b.Spread)
}

func checkMovedOn(t *testing.T, m impl.Motion, scans int64, want impl.Motion) {
	t.Helper()
	if got, code := impl.MoveOn(m, scans); got != want || code != impl.ErrNone {
		t.Errorf("MoveOn(%v, %d) = %v, %d, want %v", m, scans, got, code, want)
	}
}

func checkNotMovedOn(t *testing.T, m impl.Motion, scans, want int64) {
	t.Helper()
	if got, code := impl.MoveOn(m, scans); got != (impl.Motion{}) || code != want {
		t.Errorf("MoveOn(%v, %d) = %v, %d, want code %d", m, scans, got, code, want)
	}
}

// checkAhead compares where a motion is after some scans with moving on by one scan again and again,
// and with the coordinates themselves.
func checkAhead(t *testing.T, m impl.Motion) {
	t.Helper()
	checkMovedOn(t, m, 0, m)
	want := m
	for scans := int64(1); scans <= mostAhead; scans++ {
		want = motion(want.X+m.VX, want.Y+m.VY, m.VX, m.VY, min(want.Spread+50, 10000))
		if want.X < -reach || want.X > reach || want.Y < -reach || want.Y > reach {
			checkNotMovedOn(t, m, scans, impl.ErrState)
			continue
		}
		checkMovedOn(t, m, scans, want)
		if !impl.IsMotion(want) || want.Spread < m.Spread {
			t.Errorf("%v has become %v after %d scans", m, want, scans)
		}
		for _, first := range []int64{1, scans / 2, scans - 1} {
			half, code := impl.MoveOn(m, first)
			if code != impl.ErrNone {
				t.Errorf("MoveOn(%v, %d) has code %d, but not for %d scans", m, first, code, scans)
			}
			checkMovedOn(t, half, scans-first, want)
		}
	}
}

// checkCost checks the cost of a contact and whether it lies in the gate.
func checkCost(t *testing.T, m impl.Motion, c impl.Contact, cost int64, isIn bool) {
	t.Helper()
	if got, code := impl.GateCost(m, c); got != cost || code != impl.ErrNone {
		t.Errorf("GateCost(%v, %v) = %d, %d, want %d", m, c, got, code, cost)
	}
	if got, code := impl.InGate(m, c); got != isIn || code != impl.ErrNone {
		t.Errorf("InGate(%v, %v) = %v, %d, want %v", m, c, got, code, isIn)
	}
}

func checkCosts(t *testing.T, motions []impl.Motion, list []impl.Contact, want [][]int64) {
	t.Helper()
	got, code := impl.GateCosts(motions, list)
	if !slices.EqualFunc(got, want, slices.Equal) || code != impl.ErrNone {
		t.Errorf("GateCosts(%v, %v) = %v, %d, want %v", motions, list, got, code, want)
	}
}

// checkSeen checks all that is told of the contacts of a list and one motion. Without indices, no
// contact is the nearest one.
func checkSeen(t *testing.T, m impl.Motion, list []impl.Contact, indices []int64, nearest int64, costs []int64) {
	t.Helper()
	what := fmt.Sprintf("of %v and %v", m, list)
	got, code := impl.ContactsIn(m, list)
	checkList(t, "ContactsIn "+what, got, code, indices)
	index, code := impl.NearestIn(m, list)
	if len(indices) > 0 {
		checkNumber(t, "NearestIn "+what, index, code, nearest)
	} else {
		checkNoNumber(t, "NearestIn "+what, index, code, impl.ErrNotFound)
	}
	checkCosts(t, []impl.Motion{m}, list, [][]int64{costs})
}

// checkAnySeen compares all that is told of some motions and some contacts with the definitions.
func checkAnySeen(t *testing.T, motions []impl.Motion, list []impl.Contact) {
	t.Helper()
	var rows [][]int64
	for _, m := range motions {
		var indices, costs []int64
		nearest := int64(0)
		for i, c := range list {
			cost := wantedCost(m, c)
			checkCost(t, m, c, cost, wantedIn(m, c))
			if !wantedIn(m, c) {
				costs = append(costs, -1)
				continue
			}
			if len(indices) == 0 || cost < costs[nearest] {
				nearest = int64(i)
			}
			indices, costs = append(indices, int64(i)), append(costs, cost)
		}
		checkSeen(t, m, list, indices, nearest, costs)
		rows = append(rows, costs)
	}
	checkCosts(t, motions, list, rows)
}

// checkPromise checks that motions meet if one contact of a list is told for both, by costs, by lists
// of indices and by itself.
func checkPromise(t *testing.T, motions []impl.Motion, list []impl.Contact) int {
	t.Helper()
	costs, _ := impl.GateCosts(motions, list)
	shared := 0
	for i, a := range motions {
		for k, b := range motions {
			inA, _ := impl.ContactsIn(a, list)
			inB, _ := impl.ContactsIn(b, list)
			for n, c := range list {
				isInA, _ := impl.InGate(a, c)
				isInB, _ := impl.InGate(b, c)
				if !isInA || !isInB {
					continue
				}
				shared++
				if costs[i][n] < 0 || costs[k][n] < 0 || !slices.Contains(inA, int64(n)) || !slices.Contains(inB, int64(n)) {
					t.Errorf("%v of %v is not told for both of %v and %v", c, list, a, b)
				}
				checkGatesMeet(t, a, b, true)
			}
		}
	}
	return shared
}

func checkGatesMeet(t *testing.T, a, b impl.Motion, want bool) {
	t.Helper()
	if got, code := impl.GatesMeet(a, b); got != want || code != impl.ErrNone {
		t.Errorf("GatesMeet(%v, %v) = %v, %d, want %v", a, b, got, code, want)
	}
	if got, code := impl.GatesMeet(b, a); got != want || code != impl.ErrNone {
		t.Errorf("GatesMeet(%v, %v) = %v, %d, want %v", b, a, got, code, want)
	}
}

// checkNoGates checks that all functions of lists have this error.
func checkNoGates(t *testing.T, m impl.Motion, list []impl.Contact, want int64) {
	t.Helper()
	what := fmt.Sprintf("of %v and %v", m, list)
	indices, code := impl.ContactsIn(m, list)
	checkNoList(t, "ContactsIn "+what, indices, code, want)
	nearest, code := impl.NearestIn(m, list)
	checkNoNumber(t, "NearestIn "+what, nearest, code, want)
	checkNoCosts(t, []impl.Motion{m}, list, want)
}

func checkNoCosts(t *testing.T, motions []impl.Motion, list []impl.Contact, want int64) {
	t.Helper()
	if got, code := impl.GateCosts(motions, list); len(got) != 0 || code != want {
		t.Errorf("GateCosts(%v, %v) = %v, %d, want code %d", motions, list, got, code, want)
	}
}

// checkNoPair checks that the functions of one motion and one contact have no value.
func checkNoPair(t *testing.T, m impl.Motion, c impl.Contact) {
	t.Helper()
	cost, code := impl.GateCost(m, c)
	checkNoNumber(t, fmt.Sprintf("GateCost(%v, %v)", m, c), cost, code, impl.ErrInvalid)
	isIn, code := impl.InGate(m, c)
	checkNoBool(t, fmt.Sprintf("InGate(%v, %v)", m, c), isIn, code, impl.ErrInvalid)
	checkNoGates(t, m, []impl.Contact{c}, impl.ErrInvalid)
}

// someMotions returns valid motions with each number at its limits, just inside, and between.
func someMotions() []impl.Motion {
	var list []impl.Motion
	for _, x := range []int64{-reach, 1 - reach, 0, reach} {
		for _, step := range []int64{-quickStep, -1, 0, quickStep - 1, quickStep} {
			for _, spread := range []int64{0, 1, 5001, widest - 1, widest} {
				list = append(list, motion(x, 7, step, -3, spread), motion(7, x, -3, step, spread), motion(x, -x, step, -step, spread))
			}
		}
	}
	return list
}

// notMotions returns motions with one number, or several, beyond its limits.
func notMotions() []impl.Motion {
	var list []impl.Motion
	for _, x := range notIn(-reach, reach) {
		list = append(list, motion(x, 0, 0, 0, 0), motion(0, x, 0, 0, 0), motion(x, x, 0, 0, 0), motion(x, -reach, quickStep, -quickStep, widest), motion(reach, x, -quickStep, quickStep, widest))
	}
	for _, step := range notIn(-quickStep, quickStep) {
		list = append(list, motion(0, 0, step, 0, 0), motion(0, 0, 0, step, 0), motion(0, 0, step, step, 0), motion(reach, -reach, step, quickStep, widest), motion(-reach, reach, -quickStep, step, widest))
	}
	for _, spread := range notIn(0, widest) {
		list = append(list, gate(0, 0, spread), motion(reach, -reach, -quickStep, quickStep, spread))
	}
	return list
}

// notContacts returns contacts with a coordinate, or both, beyond the limits.
func notContacts() []impl.Contact {
	var list []impl.Contact
	for _, x := range notIn(-reach, reach) {
		list = append(list, contactsAt(x, 0, 0, x, x, x, x, -reach, reach, x)...)
	}
	return list
}

// crowd returns n different contacts around the point {0, 0}.
func crowd(n int64) []impl.Contact {
	var list []impl.Contact
	for i := range n {
		list = append(list, contact(i*i-3, 4-i))
	}
	return list
}

// throng returns n different motions around the point {0, 0}.
func throng(n int64) []impl.Motion {
	var list []impl.Motion
	for i := range n {
		list = append(list, motion(3-i, i, i, -i, i+1))
	}
	return list
}

func TestConstantsOfGates(t *testing.T) {
	if impl.MaxReach != 100000 || impl.MaxStep != 1000 || impl.MaxSpread != 10000 || impl.SpreadGrowth != 50 || impl.MaxContacts != 6 {
		t.Error("constants of chapter 14")
	}
}

func TestValidMotions(t *testing.T) {
	for _, m := range append(someMotions(), impl.Motion{}) {
		if !impl.IsMotion(m) {
			t.Errorf("IsMotion(%v) = false", m)
		}
	}
	for _, m := range notMotions() {
		if impl.IsMotion(m) {
			t.Errorf("IsMotion(%v) = true", m)
		}
	}
	for _, c := range []struct {
		m    impl.Motion
		want bool
	}{
		{motion(100000, -100000, 1000, -1000, 10000), true}, {motion(-100000, 100000, -1000, 1000, 0), true},
		{motion(100001, 0, 0, 0, 0), false}, {motion(-100001, 0, 0, 0, 0), false}, {motion(0, 100001, 0, 0, 0), false}, {motion(0, -100001, 0, 0, 0), false},
		{motion(0, 0, 1001, 0, 0), false}, {motion(0, 0, -1001, 0, 0), false}, {motion(0, 0, 0, 1001, 0), false}, {motion(0, 0, 0, -1001, 0), false},
		{motion(0, 0, 0, 0, -1), false}, {motion(0, 0, 0, 0, 10001), false},
	} {
		if impl.IsMotion(c.m) != c.want {
			t.Errorf("IsMotion(%v) = %v", c.m, !c.want)
		}
	}
}

func TestListsOfContacts(t *testing.T) {
	for _, list := range [][]impl.Contact{nil, {}, {{}}, contactsAt(100000, -100000), contactsAt(-100000, 100000), contactsAt(1, 1, 1, 1)} {
		if !impl.AreContacts(list) {
			t.Errorf("AreContacts(%v) = false", list)
		}
	}
	for n := range int64(20) {
		if got := impl.AreContacts(crowd(n)); got != (n <= 6) {
			t.Errorf("AreContacts of %d contacts = %v", n, got)
		}
	}
	for _, c := range append(contactsAt(100001, 0, -100001, 0, 0, 100001, 0, -100001), notContacts()...) {
		for n := range int64(mostSeen + 2) {
			for place := range n + 1 {
				if list := slices.Insert(crowd(n), int(place), c); impl.AreContacts(list) {
					t.Errorf("AreContacts(%v) = true", list)
				}
			}
		}
	}
}

func TestMoveOnCases(t *testing.T) {
	m := motion(10, -20, 3, -4, 5)
	for _, c := range []struct {
		m     impl.Motion
		scans int64
		want  impl.Motion
	}{
		{m, 0, m}, {m, 1, motion(13, -24, 3, -4, 55)}, {m, 2, motion(16, -28, 3, -4, 105)}, {m, 100, motion(310, -420, 3, -4, 5005)},
		{gate(7, 8, 0), 100, gate(7, 8, 5000)}, {gate(7, 8, 0), 99, gate(7, 8, 4950)},
		// Spreads that come to their limit exactly, that would grow beyond it, and that are there already.
		{gate(0, 0, 9950), 1, gate(0, 0, 10000)}, {gate(0, 0, 9949), 1, gate(0, 0, 9999)}, {gate(0, 0, 9951), 1, gate(0, 0, 10000)}, {gate(0, 0, 9999), 1, gate(0, 0, 10000)},
		{gate(0, 0, 5000), 100, gate(0, 0, 10000)}, {gate(0, 0, 4999), 100, gate(0, 0, 9999)}, {gate(0, 0, 5001), 100, gate(0, 0, 10000)}, {gate(0, 0, 5051), 99, gate(0, 0, 10000)},
		{gate(0, 0, 10000), 0, gate(0, 0, 10000)}, {gate(0, 0, 10000), 1, gate(0, 0, 10000)}, {gate(0, 0, 10000), 100, gate(0, 0, 10000)},
		// Points that come to their limits exactly, or are there already.
		{motion(0, 0, 1000, -1000, 0), 100, motion(100000, -100000, 1000, -1000, 5000)}, {motion(0, 0, -1000, 1000, 0), 100, motion(-100000, 100000, -1000, 1000, 5000)},
		{motion(99000, 0, 1000, 0, 0), 1, motion(100000, 0, 1000, 0, 50)}, {motion(0, 99997, 0, 1, 0), 3, motion(0, 100000, 0, 1, 150)}, {motion(-99900, 5, -1, 0, 0), 100, motion(-100000, 5, -1, 0, 5000)}, {motion(5, -99999, 0, -1, 0), 1, motion(5, -100000, 0, -1, 50)},
		{motion(100000, -100000, -1000, 1000, 0), 100, motion(0, 0, -1000, 1000, 5000)}, {motion(-100000, 100000, 1000, -1000, 0), 100, motion(0, 0, 1000, -1000, 5000)},
		{motion(100000, 100000, 0, 0, 1), 100, motion(100000, 100000, 0, 0, 5001)}, {motion(100000, 100000, 1000, 1000, 1), 0, motion(100000, 100000, 1000, 1000, 1)},
	} {
		checkMovedOn(t, c.m, c.scans, c.want)
	}
}

func TestMoveOnErrors(t *testing.T) {
	for _, c := range []struct {
		m     impl.Motion
		scans int64
	}{
		{motion(100000, 0, 1, 0, 0), 1}, {motion(-100000, 0, -1, 0, 0), 1}, {motion(0, 100000, 0, 1, 0), 1}, {motion(0, -100000, 0, -1, 0), 1},
		{motion(1, 0, 1000, 0, 0), 100}, {motion(-1, 0, -1000, 0, 0), 100}, {motion(0, 1, 0, 1000, 0), 100}, {motion(0, -1, 0, -1000, 0), 100},
		{motion(99901, 0, 1, 0, 10000), 100}, {motion(0, -99901, 0, -1, 10000), 100}, {motion(100000, -100000, 1000, -1000, 10000), 100}, {motion(1, 1, 1000, 1000, 0), 100},
	} {
		checkNotMovedOn(t, c.m, c.scans, impl.ErrState)
		for _, scans := range append(notIn(0, 100), 101, -1, -100) {
			checkNotMovedOn(t, c.m, scans, impl.ErrRange)
		}
	}
	for _, m := range someMotions() {
		for _, scans := range append(notIn(0, 100), 101, -1, -100) {
			checkNotMovedOn(t, m, scans, impl.ErrRange)
		}
	}
	for _, m := range notMotions() {
		for _, scans := range append(notIn(0, 100), 0, 1, 100) {
			checkNotMovedOn(t, m, scans, impl.ErrInvalid)
		}
	}
}

// TestMoveOnInParts compares moving on with single scans and with two parts, at all numbers of scans.
func TestMoveOnInParts(t *testing.T) {
	for _, m := range someMotions() {
		checkAhead(t, m)
	}
	next := scattered(14)
	for range 300 {
		checkAhead(t, motion(next(reach), next(reach), next(quickStep), next(quickStep), widest/2+next(widest/2)))
	}
}

func TestCostCases(t *testing.T) {
	for _, c := range []struct {
		m    impl.Motion
		c    impl.Contact
		cost int64
		isIn bool
	}{
		{motion(0, 0, 3, 4, 5), contact(3, 4), 25, true}, {motion(0, 0, 3, 4, 5), contact(4, 4), 32, false}, {gate(0, 0, 5), contact(-4, 3), 25, true}, {gate(0, 0, 5), contact(0, -5), 25, true},
		{gate(0, 0, 5), contact(1, 5), 26, false}, {gate(0, 0, 5), contact(-5, -1), 26, false}, {gate(0, 0, 5), contact(5, 1), 26, false}, {gate(0, 0, 5), contact(4, 2), 20, true}, {gate(0, 0, 4), contact(3, 4), 25, false},
		{gate(7, -9, 5), contact(10, -13), 25, true}, {gate(7, -9, 5), contact(2, -10), 26, false}, {motion(7, -9, 1000, -1000, 5), contact(4, -5), 25, true},
		// At the point itself, also with the spread 0.
		{gate(0, 0, 0), contact(0, 0), 0, true}, {gate(12, -34, 0), contact(12, -34), 0, true}, {gate(12, -34, 0), contact(12, -33), 1, false}, {gate(12, -34, 0), contact(11, -34), 1, false}, {gate(-reach, reach, 0), contact(-reach, reach), 0, true}, {gate(12, -34, 1), contact(12, -33), 1, true}, {gate(12, -34, 1), contact(13, -33), 2, false},
		// At the limits: the widest gate and the farthest contacts.
		{gate(0, 0, 10000), contact(6000, 8000), 100000000, true}, {gate(0, 0, 10000), contact(-10000, 0), 100000000, true}, {gate(0, 0, 10000), contact(10000, 1), 100000001, false}, {gate(0, 0, 9999), contact(0, 10000), 100000000, false}, {gate(0, 0, 9999), contact(0, -9999), 99980001, true},
		{gate(100000, 100000, 10000), contact(92000, 94000), 100000000, true}, {gate(-100000, -100000, 10000), contact(-92000, -94001), 64000000 + 35988001, true}, {gate(-100000, 100000, 10000), contact(-91999, 94000), 100016001, false},
		{gate(-100000, -100000, 10000), contact(100000, 100000), 80000000000, false}, {gate(100000, -100000, 0), contact(-100000, 100000), 80000000000, false}, {gate(100000, 0, 10000), contact(-100000, 0), 40000000000, false},
	} {
		checkCost(t, c.m, c.c, c.cost, c.isIn)
		costs, indices := []int64{-1}, []int64{}
		if c.isIn {
			costs, indices = []int64{c.cost}, []int64{0}
		}
		checkSeen(t, c.m, []impl.Contact{c.c}, indices, 0, costs)
	}
}

func TestSeenCases(t *testing.T) {
	five := gate(0, 0, 5)
	for _, c := range []struct {
		m       impl.Motion
		list    []impl.Contact
		indices []int64
		nearest int64
		costs   []int64
	}{
		{five, nil, nil, 0, nil}, {five, []impl.Contact{}, nil, 0, nil},
		{motion(0, 0, 3, 4, 5), contactsAt(4, 4, 3, 4, 0, 0), []int64{1, 2}, 2, []int64{-1, 25, 0}},
		// No contact in the gate, one, and all of them.
		{five, contactsAt(4, 4, 1, 5, -6, 0), nil, 0, []int64{-1, -1, -1}}, {gate(0, 0, 0), contactsAt(1, 0, 0, 1, -1, 0, 0, -1, 1, 1, reach, -reach), nil, 0, []int64{-1, -1, -1, -1, -1, -1}},
		{five, contactsAt(4, 4, 1, 5, -5, 0), []int64{2}, 2, []int64{-1, -1, 25}}, {five, contactsAt(0, 1, 4, 4, 1, 5), []int64{0}, 0, []int64{1, -1, -1}},
		{five, contactsAt(3, 4, -4, 3, 2, 2, 1, -3, 0, 5, 4, 1), []int64{0, 1, 2, 3, 4, 5}, 2, []int64{25, 25, 8, 10, 25, 17}}, {gate(3, 3, 0), contactsAt(3, 3, 3, 3, 3, 3, 3, 3, 3, 3, 3, 3), []int64{0, 1, 2, 3, 4, 5}, 0, []int64{0, 0, 0, 0, 0, 0}},
		// Several with the least cost: the first one in the gate.
		{five, contactsAt(3, 3, 1, 2, -2, 1, 2, -1), []int64{0, 1, 2, 3}, 1, []int64{18, 5, 5, 5}}, {five, contactsAt(9, 9, 5, 0, 3, 4, 9, 9, -3, 4), []int64{1, 2, 4}, 1, []int64{-1, 25, 25, -1, 25}}, {five, contactsAt(0, 5, 5, 0, -5, 0, 3, 4, 4, -3, 0, -5), []int64{0, 1, 2, 3, 4, 5}, 0, []int64{25, 25, 25, 25, 25, 25}},
		{five, contactsAt(4, 0, 2, 2, 3, 0, 2, -2, 5, 0, 2, 2), []int64{0, 1, 2, 3, 4, 5}, 1, []int64{16, 8, 9, 8, 25, 8}},
		// The nearest one first and last; the least index is not the least cost.
		{five, contactsAt(0, 0, 1, 0, 2, 0), []int64{0, 1, 2}, 0, []int64{0, 1, 4}}, {five, contactsAt(2, 0, 1, 0, 0, 0), []int64{0, 1, 2}, 2, []int64{4, 1, 0}},
		{gate(reach, reach, widest), contactsAt(reach, 90000, 90000, reach, 90000, 99999, -reach, -reach), []int64{0, 1}, 0, []int64{100000000, 100000000, -1, -1}},
	} {
		checkSeen(t, c.m, c.list, c.indices, c.nearest, c.costs)
	}
}

func TestTablesOfCosts(t *testing.T) {
	list := contactsAt(0, 0, 3, 4, 6, 8)
	far := gate(1000, 1000, 5)
	for _, c := range []struct {
		motions []impl.Motion
		list    []impl.Contact
		want    [][]int64
	}{
		{nil, nil, nil}, {nil, list, nil}, {[]impl.Motion{}, list, nil}, {[]impl.Motion{far}, nil, [][]int64{{}}}, {[]impl.Motion{far, far}, []impl.Contact{}, [][]int64{{}, {}}},
		{[]impl.Motion{gate(0, 0, 5), far, gate(3, 4, 5)}, list, [][]int64{{0, 25, -1}, {-1, -1, -1}, {25, 0, 25}}},
		{[]impl.Motion{gate(0, 0, 5), gate(0, 0, 5)}, list[1:], [][]int64{{25, -1}, {25, -1}}}, // the same motion twice has a row for each
		{[]impl.Motion{gate(0, 0, 0), gate(0, 0, 4), gate(0, 0, 5), gate(0, 0, 9), gate(0, 0, 10), gate(0, 0, widest)}, list, [][]int64{{0, -1, -1}, {0, -1, -1}, {0, 25, -1}, {0, 25, -1}, {0, 25, 100}, {0, 25, 100}}},
		{[]impl.Motion{gate(6, 8, 1)}, append(list, list...), [][]int64{{-1, -1, 0, -1, -1, 0}}},
	} {
		checkCosts(t, c.motions, c.list, c.want)
	}
}

// TestAllSeen compares all that is told with the definitions, for one contact at all places near a gate
// and for lists of all lengths.
func TestAllSeen(t *testing.T) {
	for _, p := range square(12) {
		for _, place := range []impl.Point{{}, point(-5, 3), point(reach-12, -reach+12)} {
			c := contact(place.X+p.X, place.Y+p.Y)
			for spread := range int64(14) {
				checkAnySeen(t, []impl.Motion{gate(place.X, place.Y, spread)}, []impl.Contact{c})
			}
		}
	}
	next := scattered(7)
	for i := range int64(3000) {
		limit := []int64{1, 2, 5, 30, 8000, reach}[i%6]
		var motions []impl.Motion
		for range i % 7 {
			motions = append(motions, motion(next(limit), next(limit), next(quickStep), next(quickStep), (limit+next(limit))%(widest+1)))
		}
		var list []impl.Contact
		for range i / 7 % 7 {
			list = append(list, contact(next(limit), next(limit)))
		}
		checkAnySeen(t, motions, list)
	}
}

func TestGatesMeetCases(t *testing.T) {
	five := gate(0, 0, 5)
	for _, c := range []struct {
		a, b impl.Motion
		want bool
	}{
		{motion(0, 0, 3, 4, 5), gate(10, 0, 5), true}, {motion(0, 0, 3, 4, 5), gate(10, 0, 4), false}, {five, gate(0, -10, 5), true}, {five, gate(0, 11, 5), false}, {five, gate(6, 8, 5), true}, {five, gate(-6, 8, 5), true}, {five, gate(-8, -6, 5), true},
		{five, gate(6, 8, 4), false}, {five, gate(10, 1, 5), false}, {five, gate(1, -10, 5), false}, {five, gate(9, 4, 5), true}, {five, gate(7, 8, 5), false}, {five, gate(3, 4, 0), true}, {five, gate(1, 5, 0), false},
		// One gate within the other one, and the same one.
		{gate(0, 0, 100), gate(3, 4, 1), true}, {five, five, true}, {five, gate(0, 0, 0), true}, {five, gate(0, 0, widest), true},
		// Gates of spread 0.
		{gate(7, 8, 0), gate(7, 8, 0), true}, {gate(7, 8, 0), gate(7, 9, 0), false}, {gate(7, 8, 0), gate(6, 8, 0), false}, {gate(reach, -reach, 0), gate(reach, -reach, 0), true}, {gate(reach, -reach, 0), gate(-reach, reach, 0), false}, {gate(0, 0, 0), gate(1, 0, 1), true}, {gate(0, 0, 0), gate(1, 1, 1), false},
		// The widest gates, and points as far from each other as can be.
		{gate(0, 0, 10000), gate(12000, 16000, 10000), true}, {gate(0, 0, 10000), gate(12000, 16001, 10000), false}, {gate(0, 0, 10000), gate(12000, 16000, 9999), false}, {gate(-100000, 0, 10000), gate(-80000, 0, 10000), true}, {gate(100000, 0, 10000), gate(79999, 0, 10000), false}, {gate(0, 100000, 10000), gate(1, 80000, 10000), false},
		{gate(-100000, -100000, 10000), gate(100000, 100000, 10000), false}, {gate(-100000, 0, 10000), gate(100000, 0, 10000), false},
		// Only points and spreads count, not where motions go.
		{motion(0, 0, 1000, 0, 5), motion(11, 0, -1000, 0, 5), false}, {motion(0, 0, -1000, 0, 5), motion(10, 0, 1000, 0, 5), true},
	} {
		checkGatesMeet(t, c.a, c.b, c.want)
	}
}

// TestAllMeetings compares all pairs of small gates, and pairs that nearly meet, with the search for a
// point in common.
func TestAllGatesMeet(t *testing.T) {
	check := func(a, b impl.Motion) {
		t.Helper()
		checkGatesMeet(t, a, b, wantedMeet(a, b))
	}
	for _, p := range square(9) {
		for first := range int64(8) {
			for second := range int64(8) {
				check(gate(1, -2, first), gate(1+p.X, p.Y-2, second))
			}
		}
	}
	next := scattered(3)
	for range 2000 {
		a, p := gate(next(reach), next(reach), widest/2+next(widest/2)), point(next(14000), next(14000))
		b := gate(a.X+p.X, a.Y+p.Y, 0)
		if !impl.IsMotion(b) {
			continue
		}
		distance := new(big.Int).Sqrt(big.NewInt(wantedCost(a, contact(b.X, b.Y)))).Int64()
		for spread := distance - a.Spread - 2; spread <= distance-a.Spread+2; spread++ {
			if b.Spread = spread; impl.IsMotion(b) {
				check(a, b)
			}
		}
	}
}

// TestContactsInTwoGates checks the promise of the chapter.
func TestContactsInTwoGates(t *testing.T) {
	shared := checkPromise(t, []impl.Motion{gate(0, 0, 5), gate(6, 8, 5), gate(6, 8, 4), gate(3, 4, 0)}, contactsAt(3, 4, 0, 0, 6, 8))
	if shared == 0 {
		t.Error("no contact lies in two gates")
	}
	// The gates touch in the contact, which lies on both circles.
	for _, p := range [][3]int64{{3, 4, 5}, {5, 12, 13}, {6000, 8000, 10000}, {2800, 9600, 10000}, {0, 10000, 10000}} {
		for _, c := range contactsAt(p[0], p[1], -p[0], p[1], p[1], -p[0], -p[1], -p[0]) {
			a, b := gate(0, 0, p[2]), gate(2*c.X, 2*c.Y, p[2])
			checkCost(t, a, c, p[2]*p[2], true)
			checkCost(t, b, c, p[2]*p[2], true)
			checkPromise(t, []impl.Motion{a, b}, []impl.Contact{c})
			b.Spread--
			checkGatesMeet(t, a, b, false)
		}
	}
	next := scattered(5)
	shared = 0
	for i := range 1500 {
		limit := []int64{2, 6, 40, 9000, reach}[i%5]
		var motions []impl.Motion
		for range 4 {
			motions = append(motions, gate(next(limit), next(limit), (limit+next(limit))%(widest+1)))
		}
		var list []impl.Contact
		for range mostSeen {
			list = append(list, contact(next(limit), next(limit)))
		}
		shared += checkPromise(t, motions, list)
	}
	if shared < 1000 {
		t.Errorf("only %d contacts lie in two gates", shared)
	}
}

// TestNearestIsInGate checks that the nearest contact is one of those in the gate, which are those whose
// cost is told.
func TestNearestIsInGate(t *testing.T) {
	next := scattered(11)
	for i := range int64(2000) {
		limit := 3 + i%9
		m := gate(next(limit), next(limit), limit+next(limit))
		var list []impl.Contact
		for range i % 7 {
			list = append(list, contact(next(limit), next(limit)))
		}
		indices, _ := impl.ContactsIn(m, list)
		costs, _ := impl.GateCosts([]impl.Motion{m}, list)
		nearest, code := impl.NearestIn(m, list)
		if (code == impl.ErrNone) != slices.Contains(indices, nearest) || (code == impl.ErrNotFound) != (len(indices) == 0) {
			t.Errorf("NearestIn(%v, %v) = %d, %d, and %v are in the gate", m, list, nearest, code, indices)
		}
		if !impl.IsRising(indices, int64(len(list))) {
			t.Errorf("ContactsIn(%v, %v) = %v is not strictly increasing", m, list, indices)
		}
		for k, cost := range costs[0] {
			single, _ := impl.GateCost(m, list[k])
			if isIn := slices.Contains(indices, int64(k)); isIn != (cost >= 0) || isIn && cost != single || !isIn && cost != -1 {
				t.Errorf("GateCosts of %v and %v has %d for %v, but %v are in the gate", m, list, cost, list[k], indices)
			}
		}
	}
}

func TestInvalidGates(t *testing.T) {
	for _, m := range notMotions() {
		for _, c := range contactsAt(0, 0, reach, -reach, reach+1, 0) {
			checkNoPair(t, m, c)
		}
		checkNoGates(t, m, nil, impl.ErrInvalid)
		for _, other := range append(notMotions()[:3], gate(0, 0, 0), motion(reach, reach, quickStep, quickStep, widest)) {
			got, code := impl.GatesMeet(m, other)
			checkNoBool(t, fmt.Sprintf("GatesMeet(%v, %v)", m, other), got, code, impl.ErrInvalid)
			got, code = impl.GatesMeet(other, m)
			checkNoBool(t, fmt.Sprintf("GatesMeet(%v, %v)", other, m), got, code, impl.ErrInvalid)
		}
	}
	for _, c := range notContacts() {
		for _, m := range []impl.Motion{{}, gate(0, 0, widest), gate(reach, -reach, widest), motion(1, 1, 1001, 0, 0)} {
			checkNoPair(t, m, c)
		}
	}
}

// TestErrorsOfGateLists checks that each element is looked at before the lengths are, also in lists that
// are too long, and that the error of the lengths comes before the one of an empty gate.
func TestErrorsOfGateLists(t *testing.T) {
	m := gate(0, 0, 100)
	notM, notC := notMotions(), notContacts()
	for n := range int64(10) {
		list := crowd(n)
		if n > 6 {
			checkNoGates(t, m, list, impl.ErrLimit)
			checkNoGates(t, gate(reach, reach, 0), list, impl.ErrLimit)
			checkNoCosts(t, nil, list, impl.ErrLimit)
			checkNoCosts(t, throng(n), nil, impl.ErrLimit)
			checkNoCosts(t, throng(n), list, impl.ErrLimit)
			checkNoCosts(t, throng(n), crowd(6), impl.ErrLimit)
			checkNoCosts(t, throng(6), list, impl.ErrLimit)
		} else {
			checkAnySeen(t, throng(n), list)
			checkAnySeen(t, throng(6-n), list)
		}
		checkNoGates(t, notM[n], list, impl.ErrInvalid)
		for place := range int(n) + 1 {
			for k := range notC {
				bad := slices.Insert(crowd(n), place, notC[k])
				checkNoGates(t, m, bad, impl.ErrInvalid)
				checkNoGates(t, gate(reach, reach, 0), bad, impl.ErrInvalid)
				checkNoCosts(t, nil, bad, impl.ErrInvalid)
				checkNoCosts(t, throng(7), bad, impl.ErrInvalid)
			}
			for k := range notM {
				bad := slices.Insert(throng(n), place, notM[k])
				checkNoCosts(t, bad, nil, impl.ErrInvalid)
				checkNoCosts(t, bad, list, impl.ErrInvalid)
				checkNoCosts(t, bad, crowd(7), impl.ErrInvalid)
			}
		}
	}
}

// TestGateListsStayAsTheyAre checks that neither lists nor the spare capacity behind them are changed.
func TestGateListsStayAsTheyAre(t *testing.T) {
	motions, list := throng(10), crowd(10)
	for n := range 11 {
		for i := range 11 {
			impl.GateCosts(motions[:n], list[:i])
		}
		impl.AreContacts(list[:n])
		for _, m := range motions {
			impl.ContactsIn(m, list[:n])
			impl.NearestIn(m, list[:n])
		}
	}
	if !slices.Equal(motions, throng(10)) || !slices.Equal(list, crowd(10)) {
		t.Errorf("the lists have become %v and %v", motions, list)
	}
}

// TestGateAnswersShareNothing checks that an answer that is changed, also behind its end, changes no
// other one, no row of its own table and no argument.
func TestGateAnswersShareNothing(t *testing.T) {
	motions, list := []impl.Motion{gate(0, 0, 9), gate(0, 0, 9), gate(1, 2, 3)}, crowd(5)
	want, _ := impl.GateCosts(motions, list)
	for i := range motions {
		costs, _ := impl.GateCosts(motions, list)
		fill(costs[i], 77)
		for k := range motions {
			if k != i && !slices.Equal(costs[k], want[k]) {
				t.Errorf("a change of row %d has changed row %d to %v", i, k, costs[k])
			}
		}
		checkCosts(t, motions, list, want)
	}
	wanted, _ := impl.ContactsIn(motions[0], list)
	wanted = slices.Clone(wanted)
	indices, _ := impl.ContactsIn(motions[0], list)
	fill(indices, 77)
	again, code := impl.ContactsIn(motions[0], list)
	checkList(t, "ContactsIn", again, code, wanted)
	if !slices.Equal(list, crowd(5)) {
		t.Errorf("the contacts have become %v", list)
	}
}

// TestGatesAtTheSameTime checks that calls keep nothing that another one sees.
func TestGatesAtTheSameTime(t *testing.T) {
	motions, list := throng(6), crowd(6)
	var group sync.WaitGroup
	for i := range 30 {
		group.Go(func() {
			checkAnySeen(t, motions[:i%7], list[:i/2%7])
			checkPromise(t, motions, list)
			checkAhead(t, motions[i%6])
		})
	}
	group.Wait()
}
