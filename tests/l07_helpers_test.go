package tests

import (
	"fmt"
	"math"
	"math/rand"
	"slices"
	"testing"

	"loop.example/g01288/impl"
)

// wrongOwners and wrongRates are those that no permit can have.
var (
	wrongOwners = []int8{-128, -1, 8, 127}
	wrongRates  = []int16{-32768, -1, impl.MaxRate + 1, 32767}
)

// noCells are numbers that are no cells of a ground 3 wide and 2 high.
var noCells = []int8{-128, -8, -1, 3, 7, 11, 16, 63, 64, 127}

// wrongIndices are lists that are no strictly increasing indices of a list of three.
var wrongIndices = [][]int64{
	{-1}, {3}, {0, 3}, {0, 1, 2, 3}, {-1, 0}, {0, 0}, {1, 1}, {0, 1, 1}, {1, 0}, {0, 2, 1}, {2, 1, 0},
	{math.MinInt64}, {math.MaxInt64}, {0, 1 << 32}, {1 << 32, 0}, {0, 0, 0, 0, 0, 0, 0}, make([]int64, 1000000),
}

// wellField is a ground whose first row is fixed, with the head 0, and whose cells 8, 10, 12 and 14 have a joint of 1 with it alone: their heads become their gains.
func wellField(t *testing.T) impl.Ground {
	t.Helper()
	g := even(t, 7, 2, 1, 0)
	g.Fixed = 1<<7 - 1
	g.Conduct[9], g.Conduct[11], g.Conduct[13] = 0, 0, 0
	return g
}

// watching returns the office of a ground with watches.
func watching(g impl.Ground, watches ...impl.Watch) impl.Office {
	return impl.Office{Ground: g, Watches: watches}
}

// wellOffice is that of the well field, where the rates at the cell 8 may be most together.
func wellOffice(t *testing.T, most int64) impl.Office {
	t.Helper()
	return watching(wellField(t), impl.Watch{Cell: 8, Level: -float32(most) / 4})
}

// permitsAt returns permits at a cell, each of another owner.
func permitsAt(cell int8, rates ...int16) []impl.Permit {
	list := make([]impl.Permit, len(rates))
	for i, rate := range rates {
		list[i] = impl.Permit{Owner: int8(i % 8), Cell: cell, Rate: rate}
	}
	return list
}

// permitsOf returns permits with these owners, cells and rates, three numbers for each.
func permitsOf(numbers ...int16) []impl.Permit {
	var list []impl.Permit
	for three := range slices.Chunk(numbers, 3) {
		list = append(list, impl.Permit{Owner: int8(three[0]), Cell: int8(three[1]), Rate: three[2]})
	}
	return list
}

// officeExample and permitExample are those of the example of chapter 7.
func officeExample(t *testing.T) impl.Office {
	t.Helper()
	return watching(even(t, 2, 2, 1, 0), impl.Watch{Cell: 9, Level: -1.5})
}

var permitExample = impl.Permit{Owner: 2, Cell: 9, Rate: 4}

// smallGround returns a calm ground that is not large, so that it settles quickly.
func smallGround(r *rand.Rand) impl.Ground {
	for {
		if g := calmGround(r); int(g.Wide)*int(g.High) <= 16 {
			return g
		}
	}
}

// randomPermits returns valid permits for a ground.
func randomPermits(r *rand.Rand, g impl.Ground, count int) []impl.Permit {
	list, cells := make([]impl.Permit, count), cellsOf(g)
	for i := range list {
		list[i] = impl.Permit{Owner: int8(r.Intn(8)), Cell: int8(cells[r.Intn(len(cells))]), Rate: int16(r.Intn(41))}
		if r.Intn(6) == 0 {
			list[i].Rate = []int16{0, 1, impl.MaxRate}[r.Intn(3)]
		}
	}
	return list
}

// randomOffice returns an office that is valid, and permits of which it mostly keeps some, and not all.
func randomOffice(r *rand.Rand) (impl.Office, []impl.Permit) {
	o := impl.Office{Ground: smallGround(r)}
	list := randomPermits(r, o.Ground, r.Intn(impl.MaxPermits+1))
	high, code := withPermitsOf(o, nil)
	low, lowCode := withPermitsOf(o, list)
	cells := cellsOf(o.Ground)
	for range r.Intn(impl.MaxWatches + 1) {
		w := impl.Watch{Cell: int8(cells[r.Intn(len(cells))]), Level: float32(100*r.Float64() - 200)}
		if code == impl.OK && lowCode == impl.OK {
			// It is between the heads with all permits and without one, or a little beside them.
			share := float32(1.2*r.Float64() - 0.1)
			w.Level = low.Heads[w.Cell] + share*(high.Heads[w.Cell]-low.Heads[w.Cell])
		}
		o.Watches = append(o.Watches, w)
	}
	return o, list
}

// What follows is written down step by step from chapter 7.

func withPermitsOf(o impl.Office, list []impl.Permit) (impl.Ground, int64) {
	g := o.Ground
	for _, p := range list {
		g.Gain[p.Cell] = minus(g.Gain[p.Cell], divided(float32(p.Rate), 4))
	}
	for _, p := range list {
		if g.Gain[p.Cell] < -impl.MaxSize {
			return impl.Ground{}, impl.ErrState
		}
	}
	settled, _, code := settleOf(g, 1.0/1024, 1000)
	return settled, code
}

func belowOf(o impl.Office, list []impl.Permit) (int64, float32, int64) {
	g, code := withPermitsOf(o, list)
	if code != impl.OK {
		return 0, 0, code
	}
	for i, w := range o.Watches {
		if g.Heads[w.Cell] < w.Level {
			return int64(i), minus(w.Level, g.Heads[w.Cell]), impl.OK
		}
	}
	return 0, 0, impl.ErrNotFound
}

func isKept(o impl.Office, list []impl.Permit) bool {
	_, _, code := belowOf(o, list)
	return code == impl.ErrNotFound
}

// chosenOf returns the permits with these indices.
func chosenOf(list []impl.Permit, indices []int64) []impl.Permit {
	var chosen []impl.Permit
	for _, i := range indices {
		chosen = append(chosen, list[i])
	}
	return chosen
}

func grantedOf(o impl.Office, list []impl.Permit) []int64 {
	var granted []int64
	for i := range list {
		more := append(slices.Clone(granted), int64(i))
		if isKept(o, chosenOf(list, more)) {
			granted = more
		}
	}
	return granted
}

// listsOf returns the indices of all choices of so many permits, in no told order.
func listsOf(count int) [][]int64 {
	lists := make([][]int64, 1<<count)
	for bits := range lists {
		for i := range count {
			if bits>>i&1 == 1 {
				lists[bits] = append(lists[bits], int64(i))
			}
		}
	}
	return lists
}

// keptLists returns the indices of all choices that are kept.
func keptLists(o impl.Office, list []impl.Permit) [][]int64 {
	return slices.DeleteFunc(listsOf(len(list)), func(indices []int64) bool { return !isKept(o, chosenOf(list, indices)) })
}

// fewestOf returns the choice of those that are kept that FewestRefused prefers, and whether there is one.
func fewestOf(kept [][]int64) ([]int64, bool) {
	if len(kept) == 0 {
		return nil, false
	}
	best := kept[0]
	for _, one := range kept {
		if len(one) > len(best) || len(one) == len(best) && slices.Compare(one, best) < 0 {
			best = one
		}
	}
	return best, true
}

func ratesOf(list []impl.Permit) int64 {
	sum := int64(0)
	for _, p := range list {
		sum += int64(p.Rate)
	}
	return sum
}

// mostOf returns the choice of those that are kept that MostWater prefers, its sum, and whether there is one.
func mostOf(list []impl.Permit, kept [][]int64) ([]int64, int64, bool) {
	if len(kept) == 0 {
		return nil, 0, false
	}
	best, most := kept[0], ratesOf(chosenOf(list, kept[0]))
	for _, one := range kept {
		sum := ratesOf(chosenOf(list, one))
		isFirst := len(one) < len(best) || len(one) == len(best) && slices.Compare(one, best) < 0
		if sum > most || sum == most && isFirst {
			best, most = one, sum
		}
	}
	return best, most, true
}

// scaledOf returns the permits with the greatest rates that are not too great for a percent.
func scaledOf(list []impl.Permit, percent int64) []impl.Permit {
	scaled := slices.Clone(list)
	for i, p := range list {
		for int64(scaled[i].Rate)*100 > int64(p.Rate)*percent {
			scaled[i].Rate--
		}
	}
	return scaled
}

func percentOf(o impl.Office, list []impl.Permit) (int64, int64) {
	for percent := int64(100); percent >= 0; percent-- {
		if isKept(o, scaledOf(list, percent)) {
			return percent, impl.OK
		}
	}
	return 0, impl.ErrNotFound
}

// hundredthsOf returns what a logger of chapter 7 keeps of a head.
func hundredthsOf(head float32) int16 {
	size := 100 * math.Abs(float64(head))
	whole := math.Floor(size)
	if size-whole >= 0.5 {
		whole++
	}
	if head < 0 {
		whole = -whole
	}
	if whole < -32768 {
		return -32768
	}
	if whole > 32767 {
		return 32767
	}
	return int16(whole)
}

func wantWith(t *testing.T, name string, o impl.Office, list []impl.Permit, want impl.Ground, wantedCode int64) {
	t.Helper()
	g, code := impl.GroundWith(o, list)
	wantGround(t, "GroundWith, "+name, g, code, want, wantedCode)
	var levels []float32
	if wantedCode == impl.OK {
		for _, w := range o.Watches {
			levels = append(levels, want.Heads[w.Cell])
		}
	}
	got, code := impl.LevelsWith(o, list)
	wantNumbers(t, "LevelsWith, "+name, got, code, levels, wantedCode)
}

func wantBelow(t *testing.T, name string, o impl.Office, list []impl.Permit, want int64, missing float32, wantedCode int64) {
	t.Helper()
	at, less, code := impl.FirstBelow(o, list)
	wantIndex(t, "FirstBelow, "+name, at, less, code, want, missing, wantedCode)
	kept, code := impl.AreKept(o, list)
	wantYes(t, "AreKept, "+name, kept, code, wantedCode == impl.ErrNotFound, impl.OK)
}

// wantYes checks a yes or no that is returned with a code.
func wantYes(t *testing.T, name string, got bool, code int64, want bool, wantedCode int64) {
	t.Helper()
	if got != want || code != wantedCode {
		t.Errorf("%s: %v, code %d, want %v, code %d", name, got, code, want, wantedCode)
	}
}

func wantPermits(t *testing.T, name string, got []impl.Permit, code int64, want []impl.Permit, wantedCode int64) {
	t.Helper()
	wantCode(t, name, code, wantedCode)
	if !slices.Equal(got, want) {
		t.Errorf("%s: %v, want %v", name, got, want)
	}
}

// wantGranted checks what is granted in order, and that nothing else is told to be so.
func wantGranted(t *testing.T, name string, o impl.Office, list []impl.Permit, want ...int64) {
	t.Helper()
	granted, code := impl.GrantInOrder(o, list)
	wantIndices(t, "GrantInOrder, "+name, granted, code, want, impl.OK)
	for _, other := range listsOf(len(list)) {
		yes, code := impl.CheckGrant(o, list, other)
		wantYes(t, fmt.Sprint("CheckGrant ", other, ", ", name), yes, code, slices.Equal(other, want), impl.OK)
	}
}

func wantFewest(t *testing.T, name string, o impl.Office, list []impl.Permit, want []int64, wantedCode int64) {
	t.Helper()
	indices, code := impl.FewestRefused(o, list)
	wantIndices(t, "FewestRefused, "+name, indices, code, want, wantedCode)
}

func wantMost(t *testing.T, name string, o impl.Office, list []impl.Permit, want []int64, wantedSum, wantedCode int64) {
	t.Helper()
	indices, sum, code := impl.MostWater(o, list)
	wantIndices(t, "MostWater, "+name, indices, code, want, wantedCode)
	wantCount(t, "MostWater, the sum, "+name, sum, code, wantedSum, wantedCode)
}

func wantPercent(t *testing.T, name string, o impl.Office, list []impl.Permit, want, wantedCode int64) {
	t.Helper()
	percent, code := impl.GreatestPercent(o, list)
	wantCount(t, "GreatestPercent, "+name, percent, code, want, wantedCode)
}
