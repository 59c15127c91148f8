package tests

import (
	"math"
	"math/rand"
	"slices"
	"testing"

	"loop.example/g01288/impl"
)

// unitSite is a site at which the aquifer unitAquifer has drawdowns of all sizes.
var unitSite = impl.Site{Well: impl.Well{Rate: 100}, X: 2}

// readingsAt returns readings with levels at times, in pairs.
func readingsAt(pairs ...int64) []impl.Reading {
	var list []impl.Reading
	for i := 0; i < len(pairs); i += 2 {
		list = append(list, impl.Reading{Time: pairs[i], Level: int16(pairs[i+1])})
	}
	return list
}

// readingsOf returns readings with levels at the times 1, 2, 3 ..
func readingsOf(levels ...int16) []impl.Reading {
	var list []impl.Reading
	for i, level := range levels {
		list = append(list, impl.Reading{Time: int64(i + 1), Level: level})
	}
	return list
}

func levelsOf(list []impl.Reading) []int16 {
	var levels []int16
	for _, r := range list {
		levels = append(levels, r.Level)
	}
	return levels
}

// manyReadings returns readings at the times 1, 2, 3 .., which are valid if they are not too many.
func manyReadings(count int) []impl.Reading {
	return readingsOf(make([]int16, count)...)
}

// wrongTimes returns times that are not as those of readings, in one way each, but not too many.
func wrongTimes() [][]int64 {
	lists := [][]int64{
		{5, 5}, {1, 1}, {2, 1}, {1, 2, 2}, {1, 3, 2}, {2, 1, 3}, {1, 1, 3}, {impl.MaxMoment, impl.MaxMoment}, {impl.MaxMoment, 1},
		{0, 1}, {-1, 1}, {math.MinInt64, 1}, {1, impl.MaxMoment + 1}, {1, math.MaxInt64}, {-1, 0}, {1, 2, 0},
	}
	for _, time := range wrongMoments {
		lists = append(lists, []int64{time})
	}
	return lists
}

// wrongReadings returns readings that are not valid, each in one way.
func wrongReadings() [][]impl.Reading {
	lists := [][]impl.Reading{manyReadings(impl.MaxReadings + 1), make([]impl.Reading, 2), make([]impl.Reading, impl.MaxReadings)}
	for _, times := range wrongTimes() {
		list := make([]impl.Reading, len(times))
		for i, time := range times {
			list[i] = impl.Reading{Time: time, Level: int16(i)}
		}
		lists = append(lists, list)
	}
	return lists
}

// wrongSites returns sites that are not valid, each in one way.
func wrongSites() []impl.Site {
	var list []impl.Site
	for _, w := range wrongWells() {
		list = append(list, impl.Site{Well: w})
	}
	for _, n := range []int8{-128, -101, 101, 127} {
		list = append(list, impl.Site{X: n, Well: impl.Well{Rate: 1}}, impl.Site{Y: n, Well: impl.Well{Rate: 1}})
	}
	return list
}

// randomLevel returns a level, often one at an edge or a small one.
func randomLevel(r *rand.Rand) int16 {
	switch r.Intn(4) {
	case 0:
		return []int16{math.MinInt16, math.MaxInt16, 0, 1, -1}[r.Intn(5)]
	case 1:
		return int16(r.Intn(7) - 3)
	}
	return int16(r.Intn(65536) - 32768)
}

// randomTimes returns so many times, strictly increasing, and close together as often as far apart.
func randomTimes(r *rand.Rand, count int) []int64 {
	span := []int64{int64(count) + 3, 1000, impl.MaxMoment}[r.Intn(3)]
	from := 1 + r.Int63n(impl.MaxMoment+1-span)
	if r.Intn(2) == 0 {
		from = 1
	}
	been := map[int64]bool{}
	var list []int64
	for len(list) < count {
		if time := from + r.Int63n(span); !been[time] {
			been[time] = true
			list = append(list, time)
		}
	}
	slices.Sort(list)
	return list
}

// randomReadings returns so many valid readings.
func randomReadings(r *rand.Rand, count int) []impl.Reading {
	var list []impl.Reading
	for _, time := range randomTimes(r, count) {
		list = append(list, impl.Reading{Time: time, Level: randomLevel(r)})
	}
	return list
}

// randomSite returns a valid site, often one near its well.
func randomSite(r *rand.Rand) impl.Site {
	s := impl.Site{Well: randomWell(r), X: int8(randomPlace(r)), Y: int8(randomPlace(r))}
	if r.Intn(2) == 0 {
		s.X, s.Y = s.Well.X, s.Well.Y
	}
	return s
}

// testedSite returns a site, and readings of it, from which the drawdowns of some aquifer do not differ much.
func testedSite(r *rand.Rand) (impl.Site, []impl.Reading) {
	s := impl.Site{Well: impl.Well{Rate: float32(100 * r.Float64())}, X: int8(r.Intn(5)), Y: int8(r.Intn(3))}
	a := impl.Aquifer{Transmit: float32(math.Exp2(8*r.Float64() - 4)), Store: float32(math.Exp2(-8 * r.Float64()))}
	var list []impl.Reading
	for _, time := range randomTimes(r, r.Intn(12)) {
		list = append(list, impl.Reading{Time: time, Level: loggerOf(siteOf(a, s, time)) + int16(r.Intn(3)-1)})
	}
	return s, list
}

// What follows is written down step by step from chapter 4.

func loggerOf(level float32) int16 {
	z := times(level, 16)
	switch {
	case math.IsNaN(float64(level)):
		return 0
	case z >= 0 && plus(z, 0.5) >= 32767:
		return 32767
	case z >= 0:
		return int16(math.Floor(float64(plus(z, 0.5))))
	case minus(z, 0.5) <= -32768:
		return -32768
	}
	return int16(math.Ceil(float64(minus(z, 0.5))))
}

func levelOf(r impl.Reading) float32 { return divided(float32(r.Level), 16) }

// siteOf returns the drawdown at a site.
func siteOf(a impl.Aquifer, s impl.Site, time int64) float32 {
	return drawdownOf(a, s.Well, int64(s.X), int64(s.Y), time)
}

func differenceOf(a impl.Aquifer, s impl.Site, r impl.Reading) float32 {
	return minus(levelOf(r), siteOf(a, s, r.Time))
}

func misfitOf(a impl.Aquifer, s impl.Site, list []impl.Reading) float32 {
	var sum float32
	for i, r := range list {
		size := float32(math.Abs(float64(differenceOf(a, s, r))))
		if i == 0 {
			sum = size
		} else {
			sum = plus(sum, size)
		}
	}
	return sum
}

func worstOf(a impl.Aquifer, s impl.Site, list []impl.Reading) (int64, float32, int64) {
	if len(list) == 0 {
		return 0, 0, impl.ErrNotFound
	}
	worst := 0
	for i, r := range list {
		if sizeOf(differenceOf(a, s, r)) > sizeOf(differenceOf(a, s, list[worst])) {
			worst = i
		}
	}
	return int64(worst), differenceOf(a, s, list[worst]), impl.OK
}

// lineThrough returns the level and the slope of a line, and d.
func lineThrough(list []impl.Reading) (float32, float32, float32) {
	x, y := lnOf(float32(list[0].Time)), levelOf(list[0])
	sx, sy, sxx, sxy := x, y, times(x, x), times(x, y)
	for _, r := range list[1:] {
		x, y = lnOf(float32(r.Time)), levelOf(r)
		sx, sy, sxx, sxy = plus(sx, x), plus(sy, y), plus(sxx, times(x, x)), plus(sxy, times(x, y))
	}
	n := float32(len(list))
	d := minus(times(n, sxx), times(sx, sx))
	slope := divided(minus(times(n, sxy), times(sx, sy)), d)
	return divided(minus(sy, times(slope, sx)), n), slope, d
}

func medianSlope(list []impl.Reading) float32 {
	var slopes []float32
	for j := range list {
		for i := range j {
			run := minus(lnOf(float32(list[j].Time)), lnOf(float32(list[i].Time)))
			slopes = append(slopes, divided(minus(levelOf(list[j]), levelOf(list[i])), run))
		}
	}
	slices.Sort(slopes)
	half := len(slopes) / 2
	if len(slopes)%2 == 0 {
		return divided(plus(slopes[half-1], slopes[half]), 2)
	}
	return slopes[half]
}

// triesOf returns the aquifers that are tried in a round, and which of them are valid.
func triesOf(a impl.Aquifer) ([4]impl.Aquifer, [4]bool) {
	tries := [4]impl.Aquifer{
		{Transmit: times(a.Transmit, 1.25), Store: a.Store},
		{Transmit: times(a.Transmit, 0.8), Store: a.Store},
		{Transmit: a.Transmit, Store: times(a.Store, 1.25)},
		{Transmit: a.Transmit, Store: times(a.Store, 0.8)},
	}
	valid := [4]bool{}
	for i, one := range tries {
		valid[i] = one.Transmit >= 1.0/1024 && one.Transmit <= impl.MaxSize && one.Store >= 1.0/1048576 && one.Store <= 1
	}
	return tries, valid
}

// fitOf also returns the pairs of tries that have been as good as each other, and better than all others of their rounds.
func fitOf(a impl.Aquifer, s impl.Site, list []impl.Reading, rounds int64) (impl.Aquifer, float32, int64, [][2]int) {
	misfit, changed, ties := misfitOf(a, s, list), int64(0), [][2]int{}
	for changed < rounds {
		next, least, tied := -1, misfit, [][2]int{}
		tries, valid := triesOf(a)
		for i, one := range tries {
			if !valid[i] {
				continue
			}
			if m := misfitOf(one, s, list); m < least {
				next, least, tied = i, m, nil
			} else if next >= 0 && m == least {
				tied = append(tied, [2]int{next, i})
			}
		}
		if next < 0 {
			break
		}
		a, misfit, changed, ties = tries[next], least, changed+1, append(ties, tied...)
	}
	return a, misfit, changed, ties
}

func wantReadings(t *testing.T, name string, got []impl.Reading, code int64, want []impl.Reading, wantedCode int64) {
	t.Helper()
	wantCode(t, name, code, wantedCode)
	if !slices.Equal(got, want) {
		t.Errorf("%s: %v, want %v", name, got, want)
	}
}

// wantIndex checks an index, and a number, that are returned with a code.
func wantIndex(t *testing.T, name string, at int64, a float32, code, wantedAt int64, want float32, wantedCode int64) {
	t.Helper()
	wantResult(t, name, a, code, want, wantedCode)
	if at != wantedAt {
		t.Errorf("%s: the index %d, want %d", name, at, wantedAt)
	}
}

// wantPair checks two numbers that are returned with a code.
func wantPair(t *testing.T, name string, a, b float32, code int64, wantedA, wantedB float32, wantedCode int64) {
	t.Helper()
	wantCode(t, name, code, wantedCode)
	wantNumber(t, name+", the first number", a, wantedA)
	wantNumber(t, name+", the second number", b, wantedB)
}

// wantFit checks what FitFrom returns.
func wantFit(t *testing.T, name string, a impl.Aquifer, misfit float32, changed, code int64, wantedA impl.Aquifer, wantedMisfit float32, wantedChanged, wantedCode int64) {
	t.Helper()
	wantIndex(t, name, changed, misfit, code, wantedChanged, wantedMisfit, wantedCode)
	if !sameBits(a.Transmit, wantedA.Transmit) || !sameBits(a.Store, wantedA.Store) {
		t.Errorf("%s: %v, want %v", name, a, wantedA)
	}
}

func wantIndices(t *testing.T, name string, got []int64, code int64, want []int64, wantedCode int64) {
	t.Helper()
	wantCode(t, name, code, wantedCode)
	if !slices.Equal(got, want) {
		t.Errorf("%s: %v, want %v", name, got, want)
	}
}
