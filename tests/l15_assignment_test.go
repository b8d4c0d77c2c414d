package tests

import (
	"cmp"
	"fmt"
	"slices"
	"sync"
	"testing"

	"loop.example/g00915/impl"
)

const (
	dearest    = impl.MaxCost
	mostPaired = impl.MaxContacts
)

// rows returns the table with these entries, one row of some number of columns behind the other.
func rows(columns int, entries ...int64) [][]int64 {
	return slices.Collect(slices.Chunk(entries, columns))
}

// notCosts returns numbers that lie beyond low and the greatest entry.
func notCosts(low int64) []int64 {
	return slices.DeleteFunc(notIn(low, dearest), func(x int64) bool { return x >= low && x <= dearest })
}

// flat returns the table all of whose entries are the same.
func flat(n, columns int, entry int64) [][]int64 {
	var list [][]int64
	for range n {
		list = append(list, repeated(columns, entry))
	}
	return list
}

// tableOf returns the table whose entries a function tells by row and column.
func tableOf(n, columns int, entry func(row, column int) int64) [][]int64 {
	list := flat(n, columns, 0)
	for row := range list {
		for column := range list[row] {
			list[row][column] = entry(row, column)
		}
	}
	return list
}

// cloned returns a table that shares nothing with the other one.
func cloned(costs [][]int64) [][]int64 {
	return tableOf(len(costs), columnsOf(costs), func(row, column int) int64 { return costs[row][column] })
}

func columnsOf(costs [][]int64) int {
	if len(costs) == 0 {
		return 0
	}
	return len(costs[0])
}

func sameTable(a, b [][]int64) bool {
	return slices.EqualFunc(a, b, slices.Equal)
}

// eachTable visits all tables of some size with entries from a list. The table is changed afterwards.
func eachTable(n, columns int, entries []int64, visit func(costs [][]int64)) {
	eachList(n*columns, entries, func(list []int64) {
		visit(tableOf(n, columns, func(row, column int) int64 { return list[row*columns+column] }))
	})
}

// eachList visits all lists of n elements from others, in their order. The list is changed afterwards.
func eachList(n int, elements []int64, visit func(list []int64)) {
	list := make([]int64, n)
	var choose func(place int)
	choose = func(place int) {
		if place == n {
			visit(list)
			return
		}
		for _, x := range elements {
			list[place] = x
			choose(place + 1)
		}
	}
	choose(0)
}

// eachPairing visits all pairings of costs in lexicographic order, with their sums.
func eachPairing(costs [][]int64, miss int64, visit func(pairs []int64, sum int64)) {
	var pairs []int64
	var choose func(sum int64)
	choose = func(sum int64) {
		if len(pairs) == len(costs) {
			visit(pairs, sum)
			return
		}
		row := costs[len(pairs)]
		for column := int64(-1); column < int64(len(row)); column++ {
			cost := miss
			if column >= 0 {
				cost = row[column]
			}
			if cost < 0 || column >= 0 && slices.Contains(pairs, column) {
				continue
			}
			pairs = append(pairs, column)
			choose(sum + cost)
			pairs = pairs[:len(pairs)-1]
		}
	}
	choose(0)
}

// isPairing reports whether pairs is a pairing of costs by its definition.
func isPairing(costs [][]int64, pairs []int64) bool {
	if len(pairs) != len(costs) {
		return false
	}
	for row, column := range pairs {
		if column == -1 {
			continue
		}
		if column < 0 || column >= int64(columnsOf(costs)) || costs[row][column] == -1 {
			return false
		}
		for other := range row {
			if pairs[other] == column {
				return false
			}
		}
	}
	return true
}

// wantedGreedy goes through all entries that are less than the miss from the least one on.
func wantedGreedy(costs [][]int64, miss int64) []int64 {
	type entry struct{ cost, row, column int64 }
	var list []entry
	for row := range costs {
		for column, cost := range costs[row] {
			if cost >= 0 && cost < miss {
				list = append(list, entry{cost, int64(row), int64(column)})
			}
		}
	}
	slices.SortFunc(list, func(a, b entry) int {
		return cmp.Or(cmp.Compare(a.cost, b.cost), cmp.Compare(a.row, b.row), cmp.Compare(a.column, b.column))
	})
	pairs := repeated(len(costs), -1)
	for _, e := range list {
		if pairs[e.row] == -1 && !slices.Contains(pairs, e.column) {
			pairs[e.row] = e.column
		}
	}
	return pairs
}

func wantedBound(costs [][]int64, miss int64) int64 {
	bound := int64(0)
	for _, row := range costs {
		list := append(slices.DeleteFunc(slices.Clone(row), func(cost int64) bool { return cost == -1 }), miss)
		bound += slices.Min(list)
	}
	return bound
}

// wantedFree returns the columns that do not stand in pairs.
func wantedFree(costs [][]int64, pairs []int64) []int64 {
	var free []int64
	for column := range int64(columnsOf(costs)) {
		if !slices.Contains(pairs, column) {
			free = append(free, column)
		}
	}
	return free
}

// checkPaired checks all that is told of costs and a miss.
func checkPaired(t *testing.T, costs [][]int64, miss int64, best []int64, least int64, greedy []int64, bound int64) {
	t.Helper()
	what := fmt.Sprintf("(%v, %d)", costs, miss)
	pairs, code := impl.BestPairs(costs, miss)
	checkList(t, "BestPairs"+what, pairs, code, best)
	sum, code := impl.LeastSum(costs, miss)
	checkNumber(t, "LeastSum"+what, sum, code, least)
	pairs, code = impl.GreedyPairs(costs, miss)
	checkList(t, "GreedyPairs"+what, pairs, code, greedy)
	sum, code = impl.SumBound(costs, miss)
	checkNumber(t, "SumBound"+what, sum, code, bound)
	checkSum(t, costs, miss, best, least)
}

// checkSum checks a pairing, its sum and the columns that are free.
func checkSum(t *testing.T, costs [][]int64, miss int64, pairs []int64, want int64) {
	t.Helper()
	what := fmt.Sprintf("(%v, %d, %v)", costs, miss, pairs)
	if !impl.IsPairing(costs, pairs) {
		t.Errorf("IsPairing%s = false", what)
	}
	sum, code := impl.SumOfPairs(costs, miss, pairs)
	checkNumber(t, "SumOfPairs"+what, sum, code, want)
	checkFree(t, costs, pairs, wantedFree(costs, pairs))
}

func checkFree(t *testing.T, costs [][]int64, pairs, want []int64) {
	t.Helper()
	free, code := impl.FreeContacts(costs, pairs)
	checkList(t, fmt.Sprintf("FreeContacts(%v, %v)", costs, pairs), free, code, want)
}

func checkCount(t *testing.T, costs [][]int64, want int64) {
	t.Helper()
	count, code := impl.CountPairings(costs)
	checkNumber(t, fmt.Sprintf("CountPairings(%v)", costs), count, code, want)
}

// checkAnyPaired compares all that is told of costs and a miss with all pairings, of which it also
// checks that none has a smaller sum than the best one.
func checkAnyPaired(t *testing.T, costs [][]int64, miss int64) {
	t.Helper()
	if !impl.AreCosts(costs) {
		t.Errorf("AreCosts(%v) = false", costs)
	}
	var best []int64
	least, count := int64(-1), int64(0)
	told, _ := impl.LeastSum(costs, miss)
	eachPairing(costs, miss, func(pairs []int64, sum int64) {
		count++
		if count%7 == 1 {
			checkSum(t, costs, miss, pairs, sum)
		}
		if sum < told {
			t.Errorf("LeastSum(%v, %d) = %d, but %v has the sum %d", costs, miss, told, pairs, sum)
		}
		if least < 0 || sum < least {
			best, least = slices.Clone(pairs), sum
		}
	})
	bound := wantedBound(costs, miss)
	if bound > least {
		t.Errorf("the bound of %v and %d is %d, but the least sum is %d", costs, miss, bound, least)
	}
	checkPaired(t, costs, miss, best, least, wantedGreedy(costs, miss), bound)
	checkGreedy(t, costs, miss)
	checkCount(t, costs, count)
}

// checkGreedy checks that the greedy pairing is one, not cheaper than the best one, and that no row and
// column that are both free have an entry less than the miss, nor a pair one that is not.
func checkGreedy(t *testing.T, costs [][]int64, miss int64) {
	t.Helper()
	pairs, _ := impl.GreedyPairs(costs, miss)
	sum, code := impl.SumOfPairs(costs, miss, pairs)
	least, _ := impl.LeastSum(costs, miss)
	if !impl.IsPairing(costs, pairs) || code != impl.ErrNone || sum < least {
		t.Errorf("GreedyPairs(%v, %d) = %v with the sum %d, %d", costs, miss, pairs, sum, code)
	}
	free, _ := impl.FreeContacts(costs, pairs)
	for row, column := range pairs {
		if column >= 0 && costs[row][column] >= miss {
			t.Errorf("GreedyPairs(%v, %d) = %v pairs row %d", costs, miss, pairs, row)
		}
		for _, other := range free {
			if cost := costs[row][other]; column == -1 && cost >= 0 && cost < miss {
				t.Errorf("GreedyPairs(%v, %d) = %v leaves row %d and column %d free", costs, miss, pairs, row, other)
			}
		}
	}
}

// checkNotPaired checks that all functions of a miss have this error.
func checkNotPaired(t *testing.T, costs [][]int64, miss int64, pairs []int64, want int64) {
	t.Helper()
	what := fmt.Sprintf("(%v, %d, %v)", costs, miss, pairs)
	list, code := impl.BestPairs(costs, miss)
	checkNoList(t, "BestPairs"+what, list, code, want)
	list, code = impl.GreedyPairs(costs, miss)
	checkNoList(t, "GreedyPairs"+what, list, code, want)
	for name, call := range map[string]func([][]int64, int64) (int64, int64){"LeastSum": impl.LeastSum, "SumBound": impl.SumBound} {
		sum, code := call(costs, miss)
		checkNoNumber(t, name+what, sum, code, want)
	}
	sum, code := impl.SumOfPairs(costs, miss, pairs)
	checkNoNumber(t, "SumOfPairs"+what, sum, code, want)
}

// checkNoTable checks that the costs are none, whatever else is wrong.
func checkNoTable(t *testing.T, costs [][]int64) {
	t.Helper()
	if impl.AreCosts(costs) {
		t.Errorf("AreCosts(%v) = true", costs)
	}
	count, code := impl.CountPairings(costs)
	checkNoNumber(t, fmt.Sprintf("CountPairings(%v)", costs), count, code, impl.ErrInvalid)
	for _, pairs := range [][]int64{nil, repeated(len(costs), -1), repeated(len(costs), 0), {-2}, repeated(9, 6)} {
		if impl.IsPairing(costs, pairs) {
			t.Errorf("IsPairing(%v, %v) = true", costs, pairs)
		}
		for _, miss := range []int64{0, 5, dearest, -1, dearest + 1} {
			checkNotPaired(t, costs, miss, pairs, impl.ErrInvalid)
		}
		free, code := impl.FreeContacts(costs, pairs)
		checkNoList(t, fmt.Sprintf("FreeContacts(%v, %v)", costs, pairs), free, code, impl.ErrInvalid)
	}
}

// checkNoPairing checks that pairs is no pairing of valid costs.
func checkNoPairing(t *testing.T, costs [][]int64, pairs []int64) {
	t.Helper()
	what := fmt.Sprintf("(%v, %v)", costs, pairs)
	if impl.IsPairing(costs, pairs) {
		t.Errorf("IsPairing%s = true", what)
	}
	for _, miss := range []int64{0, 3, dearest, -1, dearest + 1} {
		sum, code := impl.SumOfPairs(costs, miss, pairs)
		checkNoNumber(t, "SumOfPairs"+what, sum, code, impl.ErrRange)
	}
	free, code := impl.FreeContacts(costs, pairs)
	checkNoList(t, "FreeContacts"+what, free, code, impl.ErrRange)
}

// someTables returns tables of all sizes with entries of few and of many kinds, small and great ones.
func someTables() [][][]int64 {
	var list [][][]int64
	next := scattered(15)
	for n := range mostPaired + 1 {
		for columns := range mostPaired + 1 {
			for _, limit := range []int64{1, 2, 9} {
				list = append(list, tableOf(n, columns, func(row, column int) int64 { return limit - 1 + next(limit) }))
			}
			list = append(list, tableOf(n, columns, func(row, column int) int64 {
				return min(max(-1, (450+next(550))*(dearest/1000)+next(9)), dearest)
			}))
		}
	}
	return list
}

func TestConstantsOfCosts(t *testing.T) {
	if impl.MaxCost != 1000000000000 {
		t.Error("constants of chapter 15")
	}
}

func TestSizesOfCosts(t *testing.T) {
	for n := range 9 {
		for columns := range 9 {
			for _, entry := range []int64{-1, 0, dearest} {
				costs := flat(n, columns, entry)
				if n > 6 || n > 0 && columns > 6 {
					checkNoTable(t, costs)
				} else if !impl.AreCosts(costs) {
					t.Errorf("AreCosts(%v) = false", costs)
				}
			}
		}
	}
	if !impl.AreCosts(nil) || !impl.AreCosts([][]int64{}) || !impl.AreCosts([][]int64{nil, {}, nil}) {
		t.Error("empty costs are not costs")
	}
	for _, costs := range [][][]int64{{{1}, {}}, {{}, {1}}, {{}, {}, {1}}, {{1, 2}, {3}}, {{1}, {2, 3}}, {{1, 2}, {3, 4}, nil}, {nil, {1, 2}, {3, 4}}, {{1}, {2, 3}, {4}}} {
		checkNoTable(t, costs)
	}
	// One row that is longer or shorter than all others stands at each place.
	for n := 2; n <= 6; n++ {
		for columns := range 7 {
			for place := range n {
				for length := range 8 {
					costs := flat(n, columns, 1)
					costs[place] = repeated(length, 1)
					if length != columns {
						checkNoTable(t, costs)
					}
				}
			}
		}
	}
}

func TestEntriesOfCosts(t *testing.T) {
	for n := 1; n <= 6; n++ {
		for columns := 1; columns <= 6; columns++ {
			for row := range n {
				for column := range columns {
					costs := flat(n, columns, 7)
					for _, x := range []int64{-1, 0, 1, 999999999999, 1000000000000} {
						costs[row][column] = x
						if !impl.AreCosts(costs) {
							t.Errorf("AreCosts(%v) = false", costs)
						}
					}
					isFirstOrLast := row+column == 0 || row == n-1 && column == columns-1
					for _, x := range append(notCosts(-1), -2, 1000000000001) {
						costs[row][column] = x
						if isFirstOrLast {
							checkNoTable(t, costs)
						} else if impl.AreCosts(costs) {
							t.Errorf("AreCosts(%v) = true", costs)
						}
					}
				}
			}
		}
	}
}

func TestPairCases(t *testing.T) {
	for _, c := range []struct {
		costs  [][]int64
		miss   int64
		best   []int64
		least  int64
		greedy []int64
		bound  int64
	}{
		{rows(2, 1, 2, 1, 5), 10, []int64{1, 0}, 3, []int64{0, 1}, 2},
		{nil, 0, nil, 0, nil, 0}, {nil, dearest, nil, 0, nil, 0}, {[][]int64{{}, {}}, 7, []int64{-1, -1}, 14, []int64{-1, -1}, 14}, {[][]int64{{}}, 0, []int64{-1}, 0, []int64{-1}, 0},
		// One entry that is less than the miss, equal to it and greater, and one that must not be paired.
		{rows(1, 5), 6, []int64{0}, 5, []int64{0}, 5}, {rows(1, 5), 5, []int64{-1}, 5, []int64{-1}, 5}, {rows(1, 5), 4, []int64{-1}, 4, []int64{-1}, 4},
		{rows(1, -1), 6, []int64{-1}, 6, []int64{-1}, 6}, {rows(1, -1), 0, []int64{-1}, 0, []int64{-1}, 0}, {rows(1, 0), 0, []int64{-1}, 0, []int64{-1}, 0}, {rows(1, 0), 1, []int64{0}, 0, []int64{0}, 0},
		{rows(1, dearest), dearest, []int64{-1}, dearest, []int64{-1}, dearest}, {rows(1, dearest-1), dearest, []int64{0}, dearest - 1, []int64{0}, dearest - 1},
		// More rows than columns, and more columns than rows.
		{rows(1, 3, 1, 2), 10, []int64{-1, 0, -1}, 21, []int64{-1, 0, -1}, 6}, {rows(3, 3, 1, 2), 10, []int64{1}, 1, []int64{1}, 1},
		{rows(2, 4, 6, 2, 5, 1, 8), 9, []int64{-1, 1, 0}, 15, []int64{-1, 1, 0}, 7}, {rows(3, 4, 2, 1, 6, 5, 8), 9, []int64{2, 1}, 6, []int64{2, 1}, 6},
		// Several pairings with the least sum.
		{rows(2, 1, 2, 2, 3), 9, []int64{0, 1}, 4, []int64{0, 1}, 3}, {rows(2, 2, 1, 3, 2), 9, []int64{0, 1}, 4, []int64{1, 0}, 3}, {rows(1, 1, 1), 3, []int64{-1, 0}, 4, []int64{0, -1}, 2},
		{rows(2, 7, 3, 7, 3, 7, 3), 7, []int64{-1, -1, 1}, 17, []int64{1, -1, -1}, 9}, {rows(2, 5, 5), 6, []int64{0}, 5, []int64{0}, 5}, {rows(3, -1, 4, 4), 9, []int64{1}, 4, []int64{1}, 4},
		{rows(3, 1, 1, 1, 1, 1, 1, 9, 1, 9), 8, []int64{0, 2, 1}, 3, []int64{0, 1, -1}, 3},
		// The greedy pairing chooses from one row, from one column, and from entries of which two share neither.
		{rows(3, 2, 1, 1), 9, []int64{1}, 1, []int64{1}, 1}, {rows(1, 2, 1, 1), 9, []int64{-1, -1, 0}, 19, []int64{-1, 0, -1}, 4}, {rows(2, 9, 1, 1, 9), 5, []int64{1, 0}, 2, []int64{1, 0}, 2}, {rows(2, 9, 1, 1, 1), 5, []int64{1, 0}, 2, []int64{1, 0}, 2},
		{rows(2, 1, 1, 1, 4), 9, []int64{1, 0}, 2, []int64{0, 1}, 2}, {rows(2, 1, 9, 9, 1), 5, []int64{0, 1}, 2, []int64{0, 1}, 2}, {rows(2, 3, 1, 9, 3), 9, []int64{0, 1}, 6, []int64{1, -1}, 4},
		// What the greedy pairing takes first costs much later, or all that is possible.
		{rows(2, 0, 1, 1, dearest), dearest, []int64{1, 0}, 2, []int64{0, -1}, 1}, {rows(2, 0, 1, 1, -1), dearest, []int64{1, 0}, 2, []int64{0, -1}, 1}, {rows(2, 0, 1, 1, dearest-1), dearest, []int64{1, 0}, 2, []int64{0, 1}, 1},
		{rows(2, 8, -1, 8, -1), 9, []int64{-1, 0}, 17, []int64{0, -1}, 16}, {rows(3, -1, -1, 3, -1, 2, -1, 1, -1, -1), 4, []int64{2, 1, 0}, 6, []int64{2, 1, 0}, 6},
	} {
		checkPaired(t, c.costs, c.miss, c.best, c.least, c.greedy, c.bound)
		checkAnyPaired(t, c.costs, c.miss)
	}
}

// TestFlatTables checks tables all of whose entries are the same: without pairs, or around the miss.
func TestFlatTables(t *testing.T) {
	for n := range 7 {
		for columns := range 7 {
			// As many rows as there are columns are paired in order, the first ones or the last ones.
			none, first, last := repeated(n, -1), repeated(n, -1), repeated(n, -1)
			for pair := range min(n, columns) {
				first[pair] = int64(pair)
				last[n-min(n, columns)+pair] = int64(pair)
			}
			all, pairs := int64(n), int64(min(n, columns))
			for _, miss := range []int64{0, 1, 2, 500, dearest - 1, dearest} {
				checkPaired(t, flat(n, columns, -1), miss, none, all*miss, none, all*miss)
				checkPaired(t, flat(n, columns, miss), miss, none, all*miss, none, all*miss)
				if miss < dearest {
					checkPaired(t, flat(n, columns, miss+1), miss, none, all*miss, none, all*miss)
				}
				bound := all
				if columns == 0 {
					bound = 0
				}
				if miss > 0 {
					checkPaired(t, flat(n, columns, miss-1), miss, last, all*miss-pairs, first, all*miss-bound)
					checkPaired(t, flat(n, columns, 0), miss, last, (all-pairs)*miss, first, (all-bound)*miss)
				}
			}
		}
	}
}

// TestAllSmallTables compares all small tables with all of their pairings.
func TestAllSmallTables(t *testing.T) {
	for _, c := range []struct {
		n, columns int
		entries    []int64
		most       int64
	}{
		{0, 0, nil, 3}, {1, 1, []int64{-1, 0, 1, 2, 3, 4}, 5}, {1, 2, []int64{-1, 0, 1, 2, 3}, 4}, {2, 1, []int64{-1, 0, 1, 2, 3}, 4}, {2, 2, []int64{-1, 0, 1, 2, 3}, 4},
		{1, 3, []int64{-1, 0, 1, 2}, 3}, {3, 1, []int64{-1, 0, 1, 2}, 3}, {2, 3, []int64{-1, 0, 1}, 2}, {3, 2, []int64{-1, 0, 1}, 2}, {3, 3, []int64{0, 2}, 3}, {3, 3, []int64{-1, 1}, 2},
	} {
		eachTable(c.n, c.columns, c.entries, func(costs [][]int64) {
			for miss := range c.most + 1 {
				checkAnyPaired(t, costs, miss)
			}
		})
	}
}

// TestNoPairingIsCheaper compares tables of all sizes with all of their pairings, and with misses that
// are less than all entries, greater, and between them.
func TestNoPairingIsCheaper(t *testing.T) {
	for _, costs := range someTables() {
		for _, miss := range []int64{0, 1, 8, dearest / 4, dearest} {
			checkAnyPaired(t, costs, miss)
		}
	}
	next := scattered(6)
	for i := range 250 {
		limit := []int64{2, 5, 50, 1000}[i%4]
		n, columns := int(3+next(3)), int(3+next(3))
		checkAnyPaired(t, tableOf(n, columns, func(row, column int) int64 { return max(-1, limit/2+next(limit)) }), limit+next(limit))
	}
}

// TestGreedyAndBestDiffer checks that there are tables of each size from two on whose greedy pairing is
// dearer than the best one, and others whose least sum is more than the bound.
func TestGreedyAndBestDiffer(t *testing.T) {
	next := scattered(29)
	dearer, above := 0, 0
	for i := range 200 {
		n, columns := 2+i%4, 2+i/4%4
		costs := tableOf(n, columns, func(row, column int) int64 { return 20 + next(20) })
		least, _ := impl.LeastSum(costs, 40)
		bound, _ := impl.SumBound(costs, 40)
		pairs, _ := impl.GreedyPairs(costs, 40)
		sum, _ := impl.SumOfPairs(costs, 40, pairs)
		if bound > least || least > sum {
			t.Errorf("%v has the bound %d, the least sum %d and the greedy sum %d", costs, bound, least, sum)
		}
		if sum > least {
			dearer++
		}
		if least > bound {
			above++
		}
	}
	if dearer < 20 || above < 20 {
		t.Errorf("only %d greedy pairings are dearer, only %d least sums above the bound", dearer, above)
	}
}

// TestAllLists compares all lists of numbers with the definition of a pairing.
func TestAllLists(t *testing.T) {
	for _, costs := range [][][]int64{
		nil, {{}}, {{}, {}}, rows(1, 4), rows(1, -1), rows(1, 4, 4), rows(2, 4, 4), rows(2, -1, 4), rows(2, 4, -1), rows(2, 1, 2, 3, 4), rows(2, -1, 2, 3, -1), rows(2, 1, -1, 3, -1), rows(2, -1, -1, -1, -1),
		rows(3, 1, 2, 3, 4, 5, 6, 7, 8, 9), rows(3, 1, -1, 3, -1, 5, -1, 7, -1, 9), rows(2, 1, 2, 3, 4, -1, 0), rows(3, 0, 1, dearest, 1, -1, 0), rows(1, 3, -1, 3),
	} {
		columns := int64(columnsOf(costs))
		var numbers []int64
		for x := int64(-3); x <= columns+1; x++ {
			numbers = append(numbers, x)
		}
		found := int64(0)
		for length := range len(costs) + 2 {
			eachList(length, numbers, func(pairs []int64) {
				if !isPairing(costs, pairs) {
					checkNoPairing(t, costs, pairs)
					return
				}
				found++
				sum := int64(0)
				for row, column := range pairs {
					if column == -1 {
						sum += 11
					} else {
						sum += costs[row][column]
					}
				}
				checkSum(t, costs, 11, pairs, sum)
			})
		}
		checkCount(t, costs, found)
	}
}

func TestPairingCases(t *testing.T) {
	costs := rows(3, 1, 2, -1, 4, -1, 6)
	for _, c := range []struct {
		pairs []int64
		sum   int64 // with a miss of 10
		free  []int64
	}{
		{[]int64{-1, -1}, 20, []int64{0, 1, 2}}, {[]int64{0, -1}, 11, []int64{1, 2}}, {[]int64{-1, 0}, 14, []int64{1, 2}}, {[]int64{1, 0}, 6, []int64{2}}, {[]int64{0, 2}, 7, []int64{1}}, {[]int64{1, 2}, 8, []int64{0}}, {[]int64{-1, 2}, 16, []int64{0, 1}},
	} {
		checkSum(t, costs, 10, c.pairs, c.sum)
		checkFree(t, costs, c.pairs, c.free)
	}
	for _, pairs := range [][]int64{nil, {}, {0}, {-1}, {0, 2, -1}, {-1, -1, -1}, {-2, 0}, {0, -2}, {3, 0}, {1, 3}, {2, 0}, {2, -1}, {-1, 1}, {0, 1}, {0, 0}, {-2, -2}, {6, 7}} {
		checkNoPairing(t, costs, pairs)
	}
	full := flat(6, 6, dearest)
	checkSum(t, full, 0, []int64{5, 4, 3, 2, 1, 0}, 6*dearest)
	checkSum(t, full, dearest, repeated(6, -1), 6*dearest)
	checkSum(t, full, dearest, []int64{-1, 5, -1, 0, -1, 2}, 6*dearest)
	checkSum(t, full, 1, []int64{-1, 5, -1, 0, -1, 2}, 3*dearest+3)
	checkFree(t, full, []int64{-1, 5, -1, 0, -1, 2}, []int64{1, 3, 4})
	checkFree(t, full, []int64{5, 4, 3, 2, 1, 0}, nil)
	checkFree(t, full, repeated(6, -1), []int64{0, 1, 2, 3, 4, 5})
	checkFree(t, nil, nil, nil)
	checkFree(t, [][]int64{{}, {}}, []int64{-1, -1}, nil)
	for row := range 6 {
		for _, x := range append(notIn(-1, 5), 6, -2, 255, 256, 1<<8+5, 1<<16, 1<<32) {
			checkNoPairing(t, full, withSample([]int64{0, 1, 2, 3, 4, 5}, row, x))
			checkNoPairing(t, full, withSample(repeated(6, -1), row, x))
		}
		for other := range 6 {
			if other != row {
				checkNoPairing(t, full, withSample([]int64{0, 1, 2, 3, 4, 5}, row, int64(other)))
				checkNoPairing(t, full, withSample(withSample(repeated(6, -1), row, 3), other, 3))
				checkSum(t, full, 0, withSample(withSample(repeated(6, -1), row, 3), other, 4), 2*dearest)
			}
		}
	}
	for length := range 9 {
		if length != 6 {
			checkNoPairing(t, full, repeated(length, -1))
		}
	}
}

// TestCountedByHand compares the numbers of pairings with those of full tables, of which k rows and k
// columns have k! pairings, of tables with pairs only on one diagonal, and of triangles.
func TestCountedByHand(t *testing.T) {
	counts := [][]int64{{1, 1, 1, 1, 1, 1, 1}, {1, 2, 3, 4, 5, 6, 7}, {1, 3, 7, 13, 21, 31, 43}, {1, 4, 13, 34, 73, 136, 229}, {1, 5, 21, 73, 209, 501, 1045}, {1, 6, 31, 136, 501, 1546, 4051}, {1, 7, 43, 229, 1045, 4051, 13327}}
	triangles := []int64{1, 2, 5, 15, 52, 203, 877}
	for n := range 7 {
		for columns := range 7 {
			checkCount(t, flat(n, columns, 0), counts[n][columns])
			checkCount(t, flat(n, columns, dearest), counts[n][columns])
			checkCount(t, flat(n, columns, -1), 1)
		}
		checkCount(t, tableOf(n, n, func(row, column int) int64 {
			if row == column {
				return 3
			}
			return -1
		}), 1<<n)
		checkCount(t, tableOf(n, n, func(row, column int) int64 { return int64(max(column-row, -1)) }), triangles[n])
		checkCount(t, tableOf(n, n, func(row, column int) int64 { return int64(max(row-column, -1)) }), triangles[n])
	}
	checkCount(t, rows(2, 1, -1, -1, 1), 4)
	checkCount(t, rows(2, 1, -1, 1, -1), 3)
	checkCount(t, rows(2, 1, 1, -1, -1), 3)
	checkCount(t, rows(2, 1, 1, 1, -1), 5)
}

// TestCountWithoutRow checks that a row more never makes pairings fewer, nor does a column.
func TestCountWithoutRow(t *testing.T) {
	for _, costs := range someTables() {
		count, _ := impl.CountPairings(costs)
		for row := range costs {
			less, code := impl.CountPairings(slices.Delete(cloned(costs), row, row+1))
			if less < 1 || less > count || code != impl.ErrNone {
				t.Errorf("%v has %d pairings, but %d, %d without row %d", costs, count, less, code, row)
			}
		}
		for column := range columnsOf(costs) {
			without := cloned(costs)
			for row := range without {
				without[row] = slices.Delete(without[row], column, column+1)
			}
			if less, code := impl.CountPairings(without); less < 1 || less > count || code != impl.ErrNone {
				t.Errorf("%v has %d pairings, but %d, %d without column %d", costs, count, less, code, column)
			}
		}
	}
}

func TestMissesOfPairs(t *testing.T) {
	for _, costs := range someTables() {
		none := repeated(len(costs), -1)
		for _, miss := range append(notCosts(0), -1, 1000000000001) {
			checkNotPaired(t, costs, miss, none, impl.ErrRange)
			checkNotPaired(t, costs, miss, append(none, 0), impl.ErrRange)
		}
		for _, miss := range []int64{0, 1, 999999999999, 1000000000000} {
			checkSum(t, costs, miss, none, int64(len(costs))*miss)
		}
	}
}

// TestSamePairsAgain checks that of many pairings with the same sum always the same one is told.
func TestSamePairsAgain(t *testing.T) {
	for _, c := range []struct {
		costs [][]int64
		miss  int64
		want  []int64
	}{
		{flat(6, 6, 0), 0, repeated(6, -1)}, {flat(6, 6, 0), 1, []int64{0, 1, 2, 3, 4, 5}}, {flat(6, 2, 4), 5, []int64{-1, -1, -1, -1, 0, 1}}, {flat(2, 6, 4), 5, []int64{0, 1}}, {flat(5, 6, dearest-1), dearest, []int64{0, 1, 2, 3, 4}},
		{append(flat(5, 2, -1), []int64{4, 4}), 9, []int64{-1, -1, -1, -1, -1, 0}}, {append(flat(5, 2, -1), []int64{9, 9}), 9, repeated(6, -1)}, {append(flat(5, 6, 9), repeated(6, 4)), 9, []int64{-1, -1, -1, -1, -1, 0}},
		{tableOf(6, 6, func(row, column int) int64 { return int64(row + column) }), 20, []int64{0, 1, 2, 3, 4, 5}}, {tableOf(6, 6, func(row, column int) int64 { return int64(row - column + 5) }), 20, []int64{0, 1, 2, 3, 4, 5}},
	} {
		for range 12 {
			pairs, code := impl.BestPairs(c.costs, c.miss)
			checkList(t, fmt.Sprintf("BestPairs(%v, %d)", c.costs, c.miss), pairs, code, c.want)
		}
	}
}

// TestPairsOfGates pairs motions with the contacts in their gates: the costs of chapter 14 are costs.
func TestPairsOfGates(t *testing.T) {
	for n := range int64(7) {
		for seen := range int64(7) {
			costs, code := impl.GateCosts(throng(n), crowd(seen))
			if code != impl.ErrNone || !impl.AreCosts(costs) {
				t.Errorf("%v are no costs, %d", costs, code)
			}
			checkAnyPaired(t, costs, 30)
		}
	}
	// The first gate holds both contacts, and is nearer to the only one that the second gate holds.
	costs, _ := impl.GateCosts([]impl.Motion{gate(0, 0, 6), gate(7, 0, 4)}, contactsAt(4, 0, 0, 5))
	checkPaired(t, costs, 100, []int64{1, 0}, 34, []int64{1, 0}, 25)
	costs, _ = impl.GateCosts([]impl.Motion{gate(0, 0, 6), gate(9, 0, 6)}, contactsAt(4, 0, 0, 5))
	checkPaired(t, costs, 100, []int64{1, 0}, 50, []int64{0, -1}, 41)
}

// TestCostsStayAsTheyAre checks that neither tables and pairings nor the spare capacity behind them are
// changed.
func TestCostsStayAsTheyAre(t *testing.T) {
	whole := tableOf(9, 9, func(row, column int) int64 { return int64((row*5+column*3)%7 - 1) })
	behind, pairs := cloned(whole), []int64{-1, 3, -1, 0, 2, -1, 9, 9, 9}
	for n := range 9 {
		for columns := range 9 {
			costs := slices.Clone(whole)
			for row := range costs {
				costs[row] = costs[row][:columns]
			}
			given := slices.Clone(costs)
			impl.AreCosts(costs[:n])
			impl.IsPairing(costs[:n], pairs[:n])
			impl.SumOfPairs(costs[:n], 4, pairs[:n])
			impl.BestPairs(costs[:n], 4)
			impl.LeastSum(costs[:n], 4)
			impl.GreedyPairs(costs[:n], 4)
			impl.CountPairings(costs[:n])
			impl.SumBound(costs[:n], 4)
			impl.FreeContacts(costs[:n], pairs[:n])
			if !sameTable(costs, given) || !sameTable(whole, behind) {
				t.Errorf("the costs have become %v", whole)
			}
		}
	}
	if !slices.Equal(pairs, []int64{-1, 3, -1, 0, 2, -1, 9, 9, 9}) {
		t.Errorf("the pairs have become %v", pairs)
	}
}

// TestPairAnswersShareNothing checks that an answer that is changed, also behind its end, changes no
// other one and no argument.
func TestPairAnswersShareNothing(t *testing.T) {
	for _, given := range someTables() {
		costs, pairs := cloned(given), repeated(len(given), -1)
		best, _ := impl.BestPairs(costs, 3)
		greedy, _ := impl.GreedyPairs(costs, 3)
		free, _ := impl.FreeContacts(costs, pairs)
		wanted := [][]int64{slices.Clone(best), slices.Clone(greedy), slices.Clone(free)}
		fill(free, 77)
		fill(greedy, 77)
		if !slices.Equal(best, wanted[0]) {
			t.Errorf("other answers have changed the best pairs of %v to %v", given, best)
		}
		fill(best, 77)
		if !sameTable(costs, given) || !slices.Equal(pairs, repeated(len(given), -1)) {
			t.Errorf("a change of answers has changed %v to %v, and pairs to %v", given, costs, pairs)
		}
		again, code := impl.BestPairs(costs, 3)
		checkList(t, "BestPairs", again, code, wanted[0])
		again, code = impl.GreedyPairs(costs, 3)
		checkList(t, "GreedyPairs", again, code, wanted[1])
		again, code = impl.FreeContacts(costs, pairs)
		checkList(t, "FreeContacts", again, code, wanted[2])
	}
}

// TestPairsAtTheSameTime checks that calls keep nothing that another one sees.
func TestPairsAtTheSameTime(t *testing.T) {
	tables := someTables()
	var group sync.WaitGroup
	for i := range 40 {
		group.Go(func() {
			checkAnyPaired(t, tables[i*4%len(tables)], int64(i%5))
			checkAnyPaired(t, tables[12], int64(i))
		})
	}
	group.Wait()
}
