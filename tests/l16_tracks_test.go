package tests

import (
	"fmt"
	"slices"
	"sync"
	"testing"

	"loop.example/g00915/impl"
)

const (
	fresh     = impl.TrailNew
	confirmed = impl.TrailConfirmed
	lost      = impl.TrailLost
	mostHits  = impl.MaxHits
	mostRun   = impl.MaxList
)

// trail is short for the trail with this motion, status, hits and misses.
func trail(m impl.Motion, status, hits, misses int64) impl.Trail {
	return impl.Trail{Motion: m, Status: status, Hits: hits, Misses: misses}
}

// scans is short for scans with these contacts.
func scans(lists ...[]impl.Contact) [][]impl.Contact {
	return lists
}

// towardZero returns x / n rounded toward zero.
func towardZero(x, n int64) int64 {
	if x < 0 {
		return -floorOf(-x, n)
	}
	return floorOf(x, n)
}

// middle returns the one of three numbers that lies between the others.
func middle(a, b, c int64) int64 {
	list := []int64{a, b, c}
	slices.Sort(list)
	return list[1]
}

// wantedMoved returns a trail that has moved on in a scan, and whether it then takes part in the scan.
func wantedMoved(x impl.Trail) (impl.Trail, bool) {
	if x.Status == 2 {
		return x, false
	}
	m := x.Motion
	m.X, m.Y, m.Spread = m.X+m.VX, m.Y+m.VY, min(m.Spread+50, 10000)
	if max(m.X, -m.X, m.Y, -m.Y) > 100000 {
		x.Status = 2
		return x, false
	}
	x.Motion = m
	return x, true
}

func wantedHit(x impl.Trail, c impl.Contact) impl.Trail {
	x, takesPart := wantedMoved(x)
	if !takesPart {
		return x
	}
	m := x.Motion
	dx, dy := c.X-m.X, c.Y-m.Y
	vx, vy := middle(-1000, m.VX+towardZero(dx, 4), 1000), middle(-1000, m.VY+towardZero(dy, 4), 1000)
	x.Motion = motion(m.X+towardZero(dx, 2), m.Y+towardZero(dy, 2), vx, vy, max(100, floorOf(m.Spread, 2)))
	if x.Hits < 1000 {
		x.Hits++
	}
	x.Misses = 0
	if x.Status == 0 && x.Hits >= 3 {
		x.Status = 1
	}
	return x
}

func wantedMiss(x impl.Trail) impl.Trail {
	x, takesPart := wantedMoved(x)
	if !takesPart {
		return x
	}
	x.Misses++
	if x.Status == 0 && x.Misses == 2 || x.Status == 1 && x.Misses == 4 {
		x.Status = 2
	}
	return x
}

// wantedScan returns what becomes of a trail in a scan, and whether it gets a contact.
func wantedScan(x impl.Trail, list []impl.Contact) (impl.Trail, bool) {
	moved, takesPart := wantedMoved(x)
	var inGate []impl.Contact
	for _, c := range list {
		if takesPart && wantedIn(moved.Motion, c) {
			inGate = append(inGate, c)
		}
	}
	if len(inGate) == 0 {
		return wantedMiss(x), false
	}
	nearest := inGate[0]
	for _, c := range inGate {
		if wantedCost(moved.Motion, c) < wantedCost(moved.Motion, nearest) {
			nearest = c
		}
	}
	return wantedHit(x, nearest), true
}

func checkTrail(t *testing.T, what string, got impl.Trail, code int64, want impl.Trail) {
	t.Helper()
	if got != want || code != impl.ErrNone {
		t.Errorf("%s = %v, %d, want %v", what, got, code, want)
	}
	if !impl.IsTrail(got) {
		t.Errorf("%s = %v, which is not valid", what, got)
	}
}

func checkNoTrail(t *testing.T, what string, got impl.Trail, code, want int64) {
	t.Helper()
	if got != (impl.Trail{}) || code != want {
		t.Errorf("%s = %v, %d, want no trail and code %d", what, got, code, want)
	}
}

func checkHit(t *testing.T, x impl.Trail, c impl.Contact, want impl.Trail) {
	t.Helper()
	got, code := impl.HitTrail(x, c)
	checkTrail(t, fmt.Sprintf("HitTrail(%v, %v)", x, c), got, code, want)
}

func checkMiss(t *testing.T, x impl.Trail, want impl.Trail) {
	t.Helper()
	got, code := impl.MissTrail(x)
	checkTrail(t, fmt.Sprintf("MissTrail(%v)", x), got, code, want)
}

func checkRun(t *testing.T, x impl.Trail, list [][]impl.Contact, want impl.Trail) {
	t.Helper()
	got, code := impl.RunTrail(x, list)
	checkTrail(t, fmt.Sprintf("RunTrail(%v, %v)", x, list), got, code, want)
}

func checkNoRun(t *testing.T, x impl.Trail, list [][]impl.Contact, want int64) {
	t.Helper()
	got, code := impl.RunTrail(x, list)
	checkNoTrail(t, fmt.Sprintf("RunTrail(%v, %v)", x, list), got, code, want)
}

// checkTold checks what is told of a trail.
func checkTold(t *testing.T, x impl.Trail, coasts, missing int64, text string) {
	t.Helper()
	got, code := impl.CoastsFor(x)
	checkNumber(t, fmt.Sprintf("CoastsFor(%v)", x), got, code, coasts)
	got, code = impl.HitsMissing(x)
	checkNumber(t, fmt.Sprintf("HitsMissing(%v)", x), got, code, missing)
	if told, code := impl.TrailText(x); told != text || code != impl.ErrNone {
		t.Errorf("TrailText(%v) = %q, %d, want %q", x, told, code, text)
	}
}

// checkAnyTrail compares all that is told of a valid trail with the definitions, and counts the misses
// until it is lost one after the other.
func checkAnyTrail(t *testing.T, x impl.Trail) {
	t.Helper()
	if !impl.IsTrail(x) {
		t.Errorf("IsTrail(%v) = false", x)
	}
	coasts, coasting := int64(0), x
	for coasting.Status != lost && coasts < 9 {
		next := wantedMiss(coasting)
		checkMiss(t, coasting, next)
		coasting = next
		coasts++
	}
	checkMiss(t, coasting, coasting)
	missing := int64(0)
	if x.Status == fresh {
		missing = 3 - x.Hits
	}
	m := x.Motion
	name := []string{"new", "confirmed", "lost"}[x.Status]
	checkTold(t, x, coasts, missing, fmt.Sprintf("%s %d,%d,%d,%d,%d,%d,%d", name, m.X, m.Y, m.VX, m.VY, m.Spread, x.Hits, x.Misses))
}

// checkNotTrail checks that no function has a value for a trail, whatever else is wrong.
func checkNotTrail(t *testing.T, x impl.Trail) {
	t.Helper()
	if impl.IsTrail(x) {
		t.Errorf("IsTrail(%v) = true", x)
	}
	for _, c := range contactsAt(0, 0, reach, -reach, reach+1, 0) {
		got, code := impl.HitTrail(x, c)
		checkNoTrail(t, fmt.Sprintf("HitTrail(%v, %v)", x, c), got, code, impl.ErrInvalid)
		checkNoRun(t, x, scans(contactsAt(c.X, c.Y)), impl.ErrInvalid)
	}
	got, code := impl.MissTrail(x)
	checkNoTrail(t, fmt.Sprintf("MissTrail(%v)", x), got, code, impl.ErrInvalid)
	for _, list := range [][][]impl.Contact{nil, scans(nil), scans(crowd(7)), make([][]impl.Contact, mostRun+1)} {
		checkNoRun(t, x, list, impl.ErrInvalid)
	}
	number, code := impl.CoastsFor(x)
	checkNoNumber(t, fmt.Sprintf("CoastsFor(%v)", x), number, code, impl.ErrInvalid)
	number, code = impl.HitsMissing(x)
	checkNoNumber(t, fmt.Sprintf("HitsMissing(%v)", x), number, code, impl.ErrInvalid)
	if text, code := impl.TrailText(x); text != "" || code != impl.ErrInvalid {
		t.Errorf("TrailText(%v) = %q, %d, want no text and code %d", x, text, code, impl.ErrInvalid)
	}
}

// trailsWith returns valid trails of one motion, with each status and all kinds of hits and misses.
func trailsWith(m impl.Motion) []impl.Trail {
	var list []impl.Trail
	for _, c := range []struct {
		status       int64
		hits, misses []int64
	}{
		{fresh, []int64{1, 2}, []int64{0, 1}},
		{confirmed, []int64{3, 4, 500, mostHits - 1, mostHits}, []int64{0, 1, 2, 3}},
		{lost, []int64{1, 2, 3, mostHits - 1, mostHits}, []int64{0, 1, 2, 3, 4}},
	} {
		for _, hits := range c.hits {
			for _, misses := range c.misses {
				list = append(list, trail(m, c.status, hits, misses))
			}
		}
	}
	return list
}

func someTrails() []impl.Trail {
	var list []impl.Trail
	for _, m := range someMotions() {
		list = append(list, trailsWith(m)...)
	}
	return list
}

// contactsNear returns n contacts near the point to which a motion moves on, within the range.
func contactsNear(next func(int64) int64, m impl.Motion, n, limit int64) []impl.Contact {
	var list []impl.Contact
	for range n {
		list = append(list, contact(middle(-reach, m.X+m.VX+next(limit), reach), middle(-reach, m.Y+m.VY+next(limit), reach)))
	}
	return list
}

func TestConstantsOfTrails(t *testing.T) {
	if impl.TrailNew != 0 || impl.TrailConfirmed != 1 || impl.TrailLost != 2 || impl.ConfirmHits != 3 || impl.NewMisses != 2 || impl.LostMisses != 4 || impl.FirstSpread != 400 || impl.LeastSpread != 100 || impl.MaxHits != 1000 {
		t.Error("constants of chapter 16")
	}
}

// TestValidTrails compares each status, hits and misses with the ranges of the chapter.
func TestValidTrails(t *testing.T) {
	type limits struct{ hitsLow, hitsHigh, missesHigh int64 }
	valid := map[int64]limits{0: {1, 2, 1}, 1: {3, 1000, 3}, 2: {1, 1000, 4}}
	some := append(notIn(-1, 5), -1, 0, 1, 2, 3, 4, 5)
	for _, status := range some {
		for _, hits := range append(notIn(1, 1000), 0, 1, 2, 3, 4, 999, 1000, 1001) {
			for _, misses := range some {
				l, isStatus := valid[status]
				want := isStatus && l.hitsLow <= hits && hits <= l.hitsHigh && 0 <= misses && misses <= l.missesHigh
				for _, m := range []impl.Motion{{}, gate(0, 0, 400), motion(-reach, reach, quickStep, -quickStep, widest)} {
					if x := trail(m, status, hits, misses); impl.IsTrail(x) != want {
						t.Errorf("IsTrail(%v) = %v", x, !want)
					}
				}
			}
		}
	}
	if impl.IsTrail(impl.Trail{}) {
		t.Error("the zero value is a trail")
	}
}

func TestInvalidTrails(t *testing.T) {
	for _, m := range notMotions() {
		for _, x := range trailsWith(m) {
			if impl.IsTrail(x) {
				t.Errorf("IsTrail(%v) = true", x)
			}
		}
		checkNotTrail(t, trail(m, fresh, 1, 0))
		checkNotTrail(t, trail(m, confirmed, 3, 0))
		checkNotTrail(t, trail(m, lost, 3, 4))
	}
	for _, m := range []impl.Motion{{}, gate(5, -6, 400), motion(reach, -reach, quickStep, -quickStep, widest)} {
		for _, status := range notIn(0, 2) {
			checkNotTrail(t, trail(m, status, 1, 0))
			checkNotTrail(t, trail(m, status, 3, 1))
		}
		for _, hits := range append(notIn(1, 1000), -1, 0, 1001) {
			for _, status := range []int64{fresh, confirmed, lost} {
				checkNotTrail(t, trail(m, status, hits, 0))
			}
		}
		for _, misses := range append(notIn(0, 4), -1, 5) {
			checkNotTrail(t, trail(m, fresh, 1, misses))
			checkNotTrail(t, trail(m, confirmed, 3, misses))
			checkNotTrail(t, trail(m, lost, 3, misses))
		}
		for _, x := range []impl.Trail{
			trail(m, fresh, 3, 0), trail(m, fresh, 1000, 0), trail(m, fresh, 1, 2), trail(m, fresh, 2, 3), trail(m, fresh, 1, 4),
			trail(m, confirmed, 1, 0), trail(m, confirmed, 2, 0), trail(m, confirmed, 3, 4), trail(m, confirmed, 1000, 4),
		} {
			checkNotTrail(t, x)
		}
	}
}

func TestFirstTrails(t *testing.T) {
	for _, c := range append(contactsAt(0, 0, 100, 0, -7, 8, reach, -reach, -reach, reach, 1-reach, reach-1), crowd(6)...) {
		got, code := impl.FirstTrail(c)
		checkTrail(t, fmt.Sprintf("FirstTrail(%v)", c), got, code, impl.Trail{Motion: impl.Motion{X: c.X, Y: c.Y, Spread: 400}, Hits: 1})
		checkAnyTrail(t, got)
	}
	for _, c := range append(contactsAt(100001, 0, -100001, 0, 0, 100001, 0, -100001), notContacts()...) {
		got, code := impl.FirstTrail(c)
		checkNoTrail(t, fmt.Sprintf("FirstTrail(%v)", c), got, code, impl.ErrInvalid)
	}
}

func TestHitCases(t *testing.T) {
	for _, c := range []struct {
		x    impl.Trail
		c    impl.Contact
		want impl.Trail
	}{
		{trail(gate(100, 0, 400), fresh, 1, 0), contact(120, 0), trail(motion(110, 0, 5, 0, 225), fresh, 2, 0)},
		{trail(motion(110, 0, 5, 0, 225), fresh, 2, 0), contact(130, 0), trail(motion(122, 0, 8, 0, 137), confirmed, 3, 0)},
		{trail(motion(10, 20, 30, -40, 300), confirmed, 7, 2), contact(50, -120), trail(motion(45, -70, 32, -65, 175), confirmed, 8, 0)},
		// Differences that are odd, negative, or both.
		{trail(gate(0, 0, 400), fresh, 1, 0), contact(0, 0), trail(gate(0, 0, 225), fresh, 2, 0)}, {trail(gate(0, 0, 400), fresh, 1, 0), contact(1, -1), trail(gate(0, 0, 225), fresh, 2, 0)},
		{trail(gate(0, 0, 400), fresh, 1, 0), contact(3, -3), trail(gate(1, -1, 225), fresh, 2, 0)}, {trail(gate(0, 0, 400), fresh, 1, 0), contact(-3, 2), trail(gate(-1, 1, 225), fresh, 2, 0)},
		{trail(gate(0, 0, 400), fresh, 1, 0), contact(4, -4), trail(motion(2, -2, 1, -1, 225), fresh, 2, 0)}, {trail(gate(0, 0, 400), fresh, 1, 0), contact(-5, 5), trail(motion(-2, 2, -1, 1, 225), fresh, 2, 0)},
		{trail(gate(0, 0, 400), fresh, 1, 0), contact(-7, -7), trail(motion(-3, -3, -1, -1, 225), fresh, 2, 0)}, {trail(gate(0, 0, 400), fresh, 1, 0), contact(-8, 9), trail(motion(-4, 4, -2, 2, 225), fresh, 2, 0)},
		{trail(motion(-11, 5, 3, -3, 400), fresh, 1, 0), contact(-15, -5), trail(motion(-11, -1, 2, -4, 225), fresh, 2, 0)},
		// A contact far outside of the gate counts as well, up to the farthest one.
		{trail(gate(0, 0, 0), fresh, 1, 0), contact(2000, -2000), trail(motion(1000, -1000, 500, -500, 100), fresh, 2, 0)},
		{trail(gate(-reach, -reach, 0), fresh, 1, 1), contact(reach, reach), trail(motion(0, 0, 1000, 1000, 100), fresh, 2, 0)}, {trail(gate(reach, reach, 0), confirmed, 3, 3), contact(-reach, reach), trail(motion(0, reach, -1000, 0, 100), confirmed, 4, 0)},
		// The third hit, with and without a miss before, and the hits near their limit.
		{trail(gate(0, 0, 400), fresh, 2, 0), contact(0, 0), trail(gate(0, 0, 225), confirmed, 3, 0)}, {trail(gate(0, 0, 400), fresh, 2, 1), contact(0, 0), trail(gate(0, 0, 225), confirmed, 3, 0)}, {trail(gate(0, 0, 400), fresh, 1, 1), contact(0, 0), trail(gate(0, 0, 225), fresh, 2, 0)},
		{trail(gate(0, 0, 400), confirmed, 998, 1), contact(0, 0), trail(gate(0, 0, 225), confirmed, 999, 0)}, {trail(gate(0, 0, 400), confirmed, 999, 3), contact(0, 0), trail(gate(0, 0, 225), confirmed, 1000, 0)}, {trail(gate(0, 0, 400), confirmed, 1000, 2), contact(0, 0), trail(gate(0, 0, 225), confirmed, 1000, 0)},
	} {
		checkHit(t, c.x, c.c, c.want)
	}
	for _, c := range notContacts() {
		for _, x := range trailsWith(motion(1, 2, 3, 4, 5)) {
			got, code := impl.HitTrail(x, c)
			checkNoTrail(t, fmt.Sprintf("HitTrail(%v, %v)", x, c), got, code, impl.ErrInvalid)
		}
	}
}

// TestHitSpeeds checks speeds that come to the greatest and the least step and that would pass them.
func TestHitSpeeds(t *testing.T) {
	for _, c := range []struct{ speed, way, want int64 }{
		{999, 3, 999}, {999, 4, 1000}, {999, 7, 1000}, {999, 8, 1000}, {1000, 0, 1000}, {1000, 4, 1000}, {1000, 9000, 1000}, {1000, -3, 1000}, {1000, -4, 999}, {996, 16, 1000}, {996, 19, 1000}, {996, 20, 1000},
		{1000, -7996, -999}, {1000, -8000, -1000}, {1000, -8003, -1000}, {1000, -8004, -1000}, {1000, -50000, -1000}, {0, 4000, 1000}, {0, 4004, 1000}, {0, 3999, 999}, {0, -4004, -1000}, {0, -3999, -999}, {-1000, 8004, 1000}, {-1000, 7999, 999},
		{-999, -4, -1000}, {-999, -8, -1000}, {-1000, -4, -1000}, {-1000, 4, -999}, {-1000, 3, -1000}, {-1000, -3, -1000}, {1, -8, -1}, {-1, 8, 1}, {-3, 7, -2},
	} {
		half := towardZero(c.way, 2)
		checkHit(t, trail(motion(7-c.speed, 30, c.speed, 5, 400), fresh, 1, 0), contact(7+c.way, 35), trail(motion(7+half, 35, c.want, 5, 225), fresh, 2, 0))
		checkHit(t, trail(motion(30, 7-c.speed, 5, c.speed, 400), fresh, 1, 0), contact(35, 7+c.way), trail(motion(35, 7+half, 5, c.want, 225), fresh, 2, 0))
	}
}

// TestHitSpreads checks spreads whose half, after they have grown, is below, at and above the least one.
func TestHitSpreads(t *testing.T) {
	for _, c := range [][2]int64{
		{0, 100}, {1, 100}, {50, 100}, {100, 100}, {148, 100}, {149, 100}, {150, 100}, {151, 100}, {152, 101}, {153, 101}, {154, 102}, {400, 225}, {401, 225}, {402, 226},
		{9948, 4999}, {9949, 4999}, {9950, 5000}, {9951, 5000}, {9999, 5000}, {10000, 5000},
	} {
		for _, hits := range []int64{3, 77, 999} {
			checkHit(t, trail(gate(-4, 5, c[0]), confirmed, hits, 1), contact(-4, 5), trail(gate(-4, 5, c[1]), confirmed, hits+1, 0))
		}
	}
}

// TestHitsAllAround compares hits at all places around a trail with the definition.
func TestHitsAllAround(t *testing.T) {
	for _, p := range square(18) {
		for _, m := range []impl.Motion{gate(0, 0, 400), motion(-2, 3, 5, -7, 160), motion(reach-18, 18-reach, -1, 1, 10)} {
			for _, x := range []impl.Trail{trail(m, fresh, 1, 1), trail(m, confirmed, 3, 2)} {
				c := contact(m.X+p.X, m.Y+p.Y)
				checkHit(t, x, c, wantedHit(x, c))
			}
		}
	}
}

func TestMissCases(t *testing.T) {
	m, moved := motion(10, -20, 3, -4, 5), motion(13, -24, 3, -4, 55)
	for _, c := range []struct{ x, want impl.Trail }{
		{trail(m, fresh, 1, 0), trail(moved, fresh, 1, 1)}, {trail(m, fresh, 2, 0), trail(moved, fresh, 2, 1)}, {trail(m, fresh, 1, 1), trail(moved, lost, 1, 2)}, {trail(m, fresh, 2, 1), trail(moved, lost, 2, 2)},
		{trail(m, confirmed, 3, 0), trail(moved, confirmed, 3, 1)}, {trail(m, confirmed, 3, 1), trail(moved, confirmed, 3, 2)}, {trail(m, confirmed, 3, 2), trail(moved, confirmed, 3, 3)}, {trail(m, confirmed, 3, 3), trail(moved, lost, 3, 4)},
		{trail(m, confirmed, 1000, 2), trail(moved, confirmed, 1000, 3)}, {trail(m, confirmed, 1000, 3), trail(moved, lost, 1000, 4)},
		// Spreads that come to their limit, and that are there already.
		{trail(gate(0, 0, 9950), fresh, 1, 0), trail(gate(0, 0, 10000), fresh, 1, 1)}, {trail(gate(0, 0, 9951), confirmed, 3, 3), trail(gate(0, 0, 10000), lost, 3, 4)}, {trail(gate(0, 0, 10000), confirmed, 9, 0), trail(gate(0, 0, 10000), confirmed, 9, 1)},
	} {
		checkMiss(t, c.x, c.want)
	}
}

// TestTrailsAtTheEdge checks moves that end at the edge of the range, which lose nothing, and moves that
// end just outside of it, after which nothing but the status is changed.
func TestTrailsAtTheEdge(t *testing.T) {
	for _, m := range []impl.Motion{motion(99999, 0, 1, 0, 400), motion(-99999, 0, -1, 0, 400), motion(0, 99999, 0, 1, 400), motion(0, -99999, 0, -1, 400), motion(99000, -99000, 1000, -1000, 400), motion(-99001, 99001, -999, 999, 400), motion(100000, -100000, 0, 0, 400)} {
		at := contact(m.X+m.VX, m.Y+m.VY)
		for _, x := range trailsWith(m) {
			if x.Status == lost {
				continue
			}
			got, code := impl.HitTrail(x, at)
			checkTrail(t, fmt.Sprintf("HitTrail(%v, %v)", x, at), got, code, wantedHit(x, at))
			if got.Status == lost || got.Motion != motion(at.X, at.Y, m.VX, m.VY, 225) {
				t.Errorf("HitTrail(%v, %v) = %v at the edge", x, at, got)
			}
			checkMiss(t, x, wantedMiss(x))
			checkRun(t, x, scans([]impl.Contact{at}), got)
		}
	}
	for _, m := range []impl.Motion{motion(100000, 0, 1, 0, 400), motion(-100000, 0, -1, 0, 400), motion(0, 100000, 0, 1, 400), motion(0, -100000, 0, -1, 400), motion(99001, 0, 1000, 0, 9999), motion(0, -99001, 0, -1000, 0), motion(100000, -100000, 1000, -1000, 400)} {
		for _, x := range trailsWith(m) {
			want := x
			want.Status = lost
			near := contact(m.X, m.Y)
			checkHit(t, x, near, want)
			checkHit(t, x, contact(0, 0), want)
			checkMiss(t, x, want)
			checkRun(t, x, scans(nil), want)
			checkRun(t, x, scans([]impl.Contact{near}), want)
			checkRun(t, x, scans([]impl.Contact{near}, nil, []impl.Contact{near}), want)
			checkAnyTrail(t, x)
		}
	}
}

// TestLostTrails checks that a lost trail stays as it is, wherever it is and whatever comes.
func TestLostTrails(t *testing.T) {
	for _, m := range someMotions() {
		for _, x := range trailsWith(m) {
			if x.Status != lost {
				continue
			}
			near := contact(m.X, m.Y)
			checkHit(t, x, near, x)
			checkMiss(t, x, x)
			checkRun(t, x, scans([]impl.Contact{near}, nil, []impl.Contact{near}), x)
			checkAnyTrail(t, x)
		}
	}
	checkTold(t, trail(gate(0, 0, 400), lost, 1, 0), 0, 0, "lost 0,0,0,0,400,1,0")
	checkTold(t, trail(gate(0, 0, 400), lost, 2, 2), 0, 0, "lost 0,0,0,0,400,2,2")
	checkTold(t, trail(gate(0, 0, 400), lost, 1000, 4), 0, 0, "lost 0,0,0,0,400,1000,4")
}

func TestToldOfTrails(t *testing.T) {
	for _, c := range []struct {
		x               impl.Trail
		coasts, missing int64
		text            string
	}{
		{trail(gate(100, 0, 400), fresh, 1, 0), 2, 2, "new 100,0,0,0,400,1,0"}, {trail(motion(122, 0, 8, 0, 137), confirmed, 3, 0), 4, 0, "confirmed 122,0,8,0,137,3,0"},
		{trail(gate(0, 0, 0), fresh, 1, 0), 2, 2, "new 0,0,0,0,0,1,0"}, {trail(gate(0, 0, 0), fresh, 2, 0), 2, 1, "new 0,0,0,0,0,2,0"}, {trail(gate(0, 0, 0), fresh, 1, 1), 1, 2, "new 0,0,0,0,0,1,1"}, {trail(gate(0, 0, 0), fresh, 2, 1), 1, 1, "new 0,0,0,0,0,2,1"},
		{trail(gate(0, 0, 0), confirmed, 3, 1), 3, 0, "confirmed 0,0,0,0,0,3,1"}, {trail(gate(0, 0, 0), confirmed, 4, 2), 2, 0, "confirmed 0,0,0,0,0,4,2"}, {trail(gate(0, 0, 0), confirmed, 1000, 3), 1, 0, "confirmed 0,0,0,0,0,1000,3"},
		// Negative numbers, each alone and all of them, and the limits.
		{trail(motion(-1, 2, 3, 4, 5), fresh, 1, 0), 2, 2, "new -1,2,3,4,5,1,0"}, {trail(motion(1, -2, 3, 4, 5), fresh, 1, 0), 2, 2, "new 1,-2,3,4,5,1,0"}, {trail(motion(1, 2, -3, 4, 5), fresh, 1, 0), 2, 2, "new 1,2,-3,4,5,1,0"}, {trail(motion(1, 2, 3, -4, 5), fresh, 1, 0), 2, 2, "new 1,2,3,-4,5,1,0"},
		{trail(motion(-1, -2, -3, -4, 5), lost, 6, 1), 0, 0, "lost -1,-2,-3,-4,5,6,1"}, {trail(motion(-100000, 100000, 1000, -1000, 10000), confirmed, 1000, 0), 4, 0, "confirmed -100000,100000,1000,-1000,10000,1000,0"},
		// The range is left before there are enough misses, with the last of them, or after.
		{trail(motion(100000, 0, 1, 0, 0), confirmed, 3, 0), 1, 0, "confirmed 100000,0,1,0,0,3,0"}, {trail(motion(99999, 0, 1, 0, 0), confirmed, 3, 0), 2, 0, "confirmed 99999,0,1,0,0,3,0"}, {trail(motion(0, -98000, 0, -1000, 0), confirmed, 3, 0), 3, 0, "confirmed 0,-98000,0,-1000,0,3,0"},
		{trail(motion(0, -97000, 0, -1000, 0), confirmed, 3, 0), 4, 0, "confirmed 0,-97000,0,-1000,0,3,0"}, {trail(motion(0, -96000, 0, -1000, 0), confirmed, 3, 0), 4, 0, "confirmed 0,-96000,0,-1000,0,3,0"}, {trail(motion(0, -98000, 0, -1000, 0), confirmed, 3, 2), 2, 0, "confirmed 0,-98000,0,-1000,0,3,2"},
		{trail(motion(0, 100000, 0, 1, 0), fresh, 1, 0), 1, 2, "new 0,100000,0,1,0,1,0"}, {trail(motion(0, 99999, 0, 1, 0), fresh, 1, 0), 2, 2, "new 0,99999,0,1,0,1,0"}, {trail(motion(0, 99998, 0, 1, 0), fresh, 2, 0), 2, 1, "new 0,99998,0,1,0,2,0"},
	} {
		checkTold(t, c.x, c.coasts, c.missing, c.text)
		checkAnyTrail(t, c.x)
	}
}

// TestAllTrails compares all that is told of trails with motions at and near their limits.
func TestAllTrails(t *testing.T) {
	for i, x := range someTrails() {
		checkAnyTrail(t, x)
		for _, c := range contactsAt(reach, -reach, int64(i%41)-20, int64(i%37)-18, middle(-reach, x.Motion.X-3, reach), middle(-reach, x.Motion.Y+5, reach)) {
			checkHit(t, x, c, wantedHit(x, c))
			want, _ := wantedScan(x, []impl.Contact{c})
			checkRun(t, x, scans([]impl.Contact{c}), want)
		}
	}
}

func TestRunCases(t *testing.T) {
	first, none := trail(gate(100, 0, 400), fresh, 1, 0), []impl.Contact(nil)
	still := trail(gate(0, 0, 100), confirmed, 3, 0)
	still1 := trail(gate(0, 0, 150), confirmed, 3, 1)
	quick := trail(motion(0, 0, 1000, 0, 100), confirmed, 3, 0)
	for _, c := range []struct {
		x    impl.Trail
		list [][]impl.Contact
		want impl.Trail
	}{
		{first, scans(contactsAt(120, 0), contactsAt(130, 0)), trail(motion(122, 0, 8, 0, 137), confirmed, 3, 0)},
		{first, nil, first}, {first, scans(), first}, {first, scans(none), trail(gate(100, 0, 450), fresh, 1, 1)}, {first, scans(none, none), trail(gate(100, 0, 500), lost, 1, 2)}, {first, scans(none, none, contactsAt(100, 0)), trail(gate(100, 0, 500), lost, 1, 2)},
		{first, scans(none, contactsAt(100, 0)), trail(gate(100, 0, 250), fresh, 2, 0)}, {first, scans(contactsAt(100, 0), none, contactsAt(100, 0)), trail(gate(100, 0, 162), confirmed, 3, 0)},
		{still, scans(none, none, none), trail(gate(0, 0, 250), confirmed, 3, 3)}, {still, scans(none, none, none, none), trail(gate(0, 0, 300), lost, 3, 4)}, {still, scans(none, none, none, contactsAt(0, 0)), trail(gate(0, 0, 150), confirmed, 4, 0)},
		// At the edge of the gate that has grown, just outside of it, and outside of the gate there was before.
		{still, scans(contactsAt(150, 0)), trail(motion(75, 0, 37, 0, 100), confirmed, 4, 0)}, {still, scans(contactsAt(90, -120)), trail(motion(45, -60, 22, -30, 100), confirmed, 4, 0)}, {still, scans(contactsAt(0, -101)), trail(motion(0, -50, 0, -25, 100), confirmed, 4, 0)},
		{still, scans(contactsAt(151, 0)), still1}, {still, scans(contactsAt(90, -121)), still1}, {still, scans(contactsAt(0, -151, 1, 150, reach, reach)), still1},
		// The gate is the one around the point that has moved on.
		{quick, scans(contactsAt(0, 0)), trail(motion(1000, 0, 1000, 0, 150), confirmed, 3, 1)}, {quick, scans(contactsAt(0, 0, 1000, 8)), trail(motion(1000, 4, 1000, 2, 100), confirmed, 4, 0)}, {quick, scans(contactsAt(850, 0)), trail(motion(925, 0, 963, 0, 100), confirmed, 4, 0)}, {quick, scans(contactsAt(849, 0)), trail(motion(1000, 0, 1000, 0, 150), confirmed, 3, 1)},
		// Several contacts: the nearest one, of several the first one, only one of them, and contacts outside before it.
		{still, scans(contactsAt(100, 0, 8, 0, 0, 80)), trail(motion(4, 0, 2, 0, 100), confirmed, 4, 0)}, {still, scans(contactsAt(8, 0, -8, 0, 0, 8)), trail(motion(4, 0, 2, 0, 100), confirmed, 4, 0)}, {still, scans(contactsAt(-8, 0, 8, 0)), trail(motion(-4, 0, -2, 0, 100), confirmed, 4, 0)},
		{still, scans(contactsAt(500, 500, 0, 140, 9, 9, 300, 0, 0, -12, 1000, 8)), trail(motion(0, -6, 0, -3, 100), confirmed, 4, 0)}, {still, scans(contactsAt(0, 0, 0, 0, 0, 0, 0, 0, 0, 0, 0, 0)), trail(gate(0, 0, 100), confirmed, 4, 0)},
	} {
		checkRun(t, c.x, c.list, c.want)
	}
}

// TestRunLengths checks lists and scans up to their limits and one beyond each.
func TestRunLengths(t *testing.T) {
	x := trail(gate(0, 0, 100), confirmed, 900, 0)
	hit := trail(gate(0, 0, 100), confirmed, 1000, 0)
	for _, n := range []int{0, 1, 2, 99, 100, 199, 200} {
		list := slices.Repeat(scans(contactsAt(0, 0)), n)
		want := hit
		want.Hits = min(900+int64(n), 1000)
		checkRun(t, x, list, want)
		checkRun(t, trail(gate(0, 0, 100), lost, 5, 2), list, trail(gate(0, 0, 100), lost, 5, 2))
	}
	for _, n := range []int{201, 202, 400, 1000} {
		for _, of := range [][]impl.Contact{nil, contactsAt(0, 0), crowd(6), crowd(7)} {
			for _, x := range append(trailsWith(gate(0, 0, 100)), trail(motion(reach, 0, 1, 0, 0), fresh, 1, 0)) {
				checkNoRun(t, x, slices.Repeat(scans(of), n), impl.ErrLimit)
			}
		}
	}
	for n := range int64(10) {
		for place := range 5 {
			list := make([][]impl.Contact, 5)
			list[place] = crowd(n)
			for _, x := range append(trailsWith(gate(0, 0, 100)), trail(motion(reach, 0, 1, 0, 0), fresh, 1, 0)) {
				if n > 6 {
					checkNoRun(t, x, list, impl.ErrLimit)
					continue
				}
				want := x
				for _, scan := range list {
					want, _ = wantedScan(want, scan)
				}
				checkRun(t, x, list, want)
			}
		}
	}
}

// TestErrorsOfRuns checks that each contact of each scan is looked at before any length is, also where
// the trail is lost already, or is lost before.
func TestErrorsOfRuns(t *testing.T) {
	trails := []impl.Trail{trail(gate(0, 0, 100), fresh, 1, 0), trail(gate(0, 0, 100), confirmed, 3, 3), trail(gate(0, 0, 100), lost, 3, 4), trail(motion(reach, 0, 1, 0, 0), fresh, 1, 0)}
	for _, bad := range append(contactsAt(100001, 0, 0, -100001), notContacts()...) {
		for _, n := range []int{1, 2, 200, 201, 202} {
			for _, length := range []int64{0, 5, 6, 7} {
				for _, isAll := range []bool{false, true} {
					list := make([][]impl.Contact, n)
					if isAll {
						for i := range list {
							list[i] = crowd(7)
						}
					}
					for _, place := range []int{0, n / 2, n - 1} {
						kept := list[place]
						list[place] = append([]impl.Contact{bad}, crowd(length)...)
						for _, x := range trails {
							checkNoRun(t, x, list, impl.ErrInvalid)
						}
						list[place] = append(crowd(length), bad)
						for _, x := range trails {
							checkNoRun(t, x, list, impl.ErrInvalid)
						}
						list[place] = kept
					}
				}
			}
		}
	}
}

// TestRunsOneByOne compares runs with the definition, and with scans one after the other, in which the
// trail moves on, looks for the nearest contact and gets it or none.
func TestRunsOneByOne(t *testing.T) {
	next := scattered(16)
	for i := range int64(600) {
		x := trailsWith(motion(next(reach), next(reach), next(quickStep), next(quickStep), 5000+next(5000)))[i%49]
		start, want := x, x
		var list [][]impl.Contact
		for k := range 30 + i%9 {
			scan := contactsNear(next, want.Motion, (i+k)%7, []int64{20, 300, 5000}[i%3])
			list = append(list, scan)
			want, _ = wantedScan(want, scan)
			x = afterScan(t, x, scan)
		}
		checkRun(t, start, list, want)
		checkRun(t, start, list, x)
		for _, cut := range []int64{0, 1, 7, 29} {
			part, _ := impl.RunTrail(start, list[:cut])
			checkRun(t, part, list[cut:], want)
		}
	}
}

// afterScan returns what HitTrail or MissTrail make of a trail in a scan.
func afterScan(t *testing.T, x impl.Trail, scan []impl.Contact) impl.Trail {
	t.Helper()
	moved, code := impl.MoveOn(x.Motion, 1)
	index, found := impl.NearestIn(moved, scan)
	if code != impl.ErrNone || found != impl.ErrNone {
		x, code = impl.MissTrail(x)
	} else {
		x, code = impl.HitTrail(x, scan[index])
	}
	if code != impl.ErrNone {
		t.Errorf("a scan has the code %d", code)
	}
	return x
}

// TestTrailsStayValid checks the promise of the chapter in many long runs: a trail is valid after each
// scan, is confirmed with its third hit, and is lost only as told.
func TestTrailsStayValid(t *testing.T) {
	next := scattered(61)
	ends := map[string]int{}
	for i := range int64(400) {
		x, _ := impl.FirstTrail(contact(next(reach), next(reach)))
		hits, inARow := int64(1), int64(0)
		for k := range int64(200) {
			before := x
			isHit := next(9) < 4+i%6
			if isHit {
				c := contactsNear(next, x.Motion, 1, []int64{10, 500, 4000, reach}[i%4])[0]
				x, _ = impl.HitTrail(x, c)
			} else {
				x, _ = impl.MissTrail(x)
			}
			if !impl.IsTrail(x) {
				t.Fatalf("%v has become %v", before, x)
			}
			if _, code := impl.MoveOn(before.Motion, 1); code != impl.ErrNone {
				before.Status = lost
				if x != before {
					t.Errorf("%v leaves its range, but has become %v", before, x)
				}
				ends["left"]++
				break
			}
			hits, inARow = counted(isHit, hits, inARow)
			checkProgress(t, before, x, hits, inARow)
			if x.Status == lost {
				ends[fmt.Sprint("lost ", before.Status)]++
				break
			}
			if k == 199 {
				ends["kept"]++
			}
		}
	}
	if ends["left"] < 20 || ends["lost 0"] < 20 || ends["lost 1"] < 20 || ends["kept"] < 20 {
		t.Errorf("the trails have ended like this: %v", ends)
	}
}

// counted returns all hits and the misses in a row after one more scan.
func counted(isHit bool, hits, inARow int64) (int64, int64) {
	if isHit {
		return hits + 1, 0
	}
	return hits, inARow + 1
}

// checkProgress checks the counts of a trail that has not left its range, and that its status follows
// from them.
func checkProgress(t *testing.T, before, x impl.Trail, hits, inARow int64) {
	t.Helper()
	want := int64(fresh)
	switch {
	case inARow == 4 || inARow == 2 && hits < 3:
		want = lost
	case hits >= 3:
		want = confirmed
	}
	if x.Status != want || x.Hits != min(hits, 1000) || x.Misses != inARow {
		t.Errorf("%v has become %v after %d hits and %d misses in a row", before, x, hits, inARow)
	}
}

// TestAllHistories goes through all histories of ten hits and misses of a trail that stays where it is.
func TestAllHistories(t *testing.T) {
	for history := range 1 << 10 {
		x, _ := impl.FirstTrail(contact(3, 4))
		hits, inARow := int64(1), int64(0)
		var list [][]impl.Contact
		for scan := range 10 {
			before, isHit := x, history>>scan&1 == 1
			if isHit {
				list = append(list, contactsAt(3, 4))
				x, _ = impl.HitTrail(x, contact(3, 4))
			} else {
				list = append(list, nil)
				x, _ = impl.MissTrail(x)
			}
			if before.Status == lost {
				if x != before {
					t.Errorf("the lost trail %v has become %v", before, x)
				}
				continue
			}
			hits, inARow = counted(isHit, hits, inARow)
			checkProgress(t, before, x, hits, inARow)
			checkAnyTrail(t, x)
		}
		first, _ := impl.FirstTrail(contact(3, 4))
		checkRun(t, first, list, x)
	}
}

// TestScansStayAsTheyAre checks that neither scans nor the spare capacity behind them and their list are
// changed.
func TestScansStayAsTheyAre(t *testing.T) {
	made := func() [][]impl.Contact {
		var list [][]impl.Contact
		for n := range int64(12) {
			list = append(list, crowd(12-n))
		}
		return list
	}
	list := made()
	for n := range 13 {
		for length := range 9 {
			var part [][]impl.Contact
			for _, scan := range list[:n] {
				part = append(part, scan[:min(length, len(scan))])
			}
			for _, x := range trailsWith(gate(0, 0, 100)) {
				impl.RunTrail(x, part)
				impl.RunTrail(x, list[:n])
			}
		}
	}
	if !slices.EqualFunc(list, made(), slices.Equal) {
		t.Errorf("the scans have become %v", list)
	}
}

// TestTrailsAtTheSameTime checks that calls keep nothing that another one sees.
func TestTrailsAtTheSameTime(t *testing.T) {
	list := slices.Repeat(scans(contactsAt(0, 0, 9, 9), nil, contactsAt(5, -5)), 60)
	var group sync.WaitGroup
	for i, x := range trailsWith(motion(0, 0, 1, -1, 100)) {
		group.Go(func() {
			want := x
			for _, scan := range list[:i] {
				want, _ = wantedScan(want, scan)
			}
			checkRun(t, x, list[:i], want)
			checkAnyTrail(t, x)
		})
	}
	group.Wait()
}
