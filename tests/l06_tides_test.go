package tests

import (
	"fmt"
	"math"
	"math/rand"
	"testing"

	"loop.example/g01288/impl"
)

// tideCall is what a tide step, or several ones, are asked with.
type tideCall struct {
	g    impl.Ground
	mean float32
	w    impl.Wave
	part float32
}

// wantTide checks a tide step.
func wantTide(t *testing.T, name string, c tideCall, hour int64, want impl.Ground, wantedCode int64) {
	t.Helper()
	after, code := impl.TideStep(c.g, c.mean, c.w, hour, c.part)
	wantGround(t, fmt.Sprint("TideStep at ", hour, ", ", name), after, code, want, wantedCode)
}

// wantRun checks several tide steps, and the heads of a cell behind each.
func wantRun(t *testing.T, name string, c tideCall, hours, cell int64, want impl.Ground, heads []float32, wantedCode int64) {
	t.Helper()
	name = fmt.Sprint(hours, " hours, ", name)
	after, code := impl.TideRun(c.g, c.mean, c.w, c.part, hours)
	wantGround(t, "TideRun, "+name, after, code, want, wantedCode)
	list, code := impl.HeadsOverTime(c.g, c.mean, c.w, c.part, hours, cell)
	wantNumbers(t, "HeadsOverTime, "+name, list, code, heads, wantedCode)
}

func wantNoRun(t *testing.T, name string, c tideCall, hours, cell, wantedCode int64) {
	t.Helper()
	wantRun(t, name, c, hours, cell, impl.Ground{}, nil, wantedCode)
}

// withHeads returns a ground with other heads.
func withHeads(g impl.Ground, heads impl.Field) impl.Ground {
	g.Heads = heads
	return g
}

func TestTideStep(t *testing.T) {
	c := tideCall{example(t), 5, waveOf(2, 0), 0.25}
	wantTide(t, "high", c, 0, withHeads(c.g, impl.Field{0: 7, 1: 5.5, 2: 5.5, 8: 6, 9: 5.5, 10: 5}), impl.OK)
	wantTide(t, "high the next day", c, 12, withHeads(c.g, impl.Field{0: 7, 1: 5.5, 2: 5.5, 8: 6, 9: 5.5, 10: 5}), impl.OK)
	wantTide(t, "low", c, 6, withHeads(c.g, impl.Field{0: 3, 1: 3.5, 2: 5.5, 8: 4, 9: 5.5, 10: 5}), impl.OK)
	wantTide(t, "in the middle", c, 3, withHeads(c.g, impl.Field{0: 5, 1: 4.5, 2: 5.5, 8: 5, 9: 5.5, 10: 5}), impl.OK)
	wantTide(t, "the last hour", c, 100000, withHeads(c.g, impl.Field{0: 4, 1: 4, 2: 5.5, 8: 4.5, 9: 5.5, 10: 5}), impl.OK)
	c.g.Fixed |= 1 << 10
	wantTide(t, "two fixed cells", c, 0, withHeads(c.g, impl.Field{0: 7, 1: 5.5, 2: 6.5, 8: 6, 9: 6.5, 10: 7}), impl.OK)
	c.w = waveOf(0, 2)
	wantTide(t, "a wave that has been high", c, 9, withHeads(c.g, impl.Field{0: 7, 1: 5.5, 2: 6.5, 8: 6, 9: 6.5, 10: 7}), impl.OK)
	c.part = 0
	wantTide(t, "a part of 0", c, 9, withHeads(c.g, impl.Field{0: 7, 1: 6, 2: 5, 8: 5, 9: 5, 10: 7}), impl.OK)
	c.g = allFixed(t)
	wantTide(t, "all cells fixed", c, 9, withHeads(c.g, impl.Field{0: 7, 1: 7, 2: 7, 8: 7, 9: 7, 10: 7}), impl.OK)
	c = tideCall{even(t, 2, 2, 0, 1), negativeZero, 0, 1}
	c.g.Heads[2], c.g.Gain[0] = negativeZero, impl.MaxSize
	wantTide(t, "the head -0", c, 6, withHeads(c.g, impl.Field{0: negativeZero, 1: 1, 2: negativeZero, 8: 1, 9: 1}), impl.OK)
	wantTide(t, "the head 0", c, 0, withHeads(c.g, impl.Field{1: 1, 2: negativeZero, 8: 1, 9: 1}), impl.OK)
}

func TestTideRun(t *testing.T) {
	c := tideCall{example(t), 5, waveOf(2, 0), 0}
	r := times(2, firstOf(turnOf(1)))
	day := []float32{7, plus(5, r), 6, 5, 4, plus(5, -r), 3, plus(5, -r), 4, 5, 6, plus(5, r)}
	for _, hours := range []int64{1, 2, 6, 11, 12, 13, 24, 25, impl.MaxHours - 1, impl.MaxHours} {
		var heads []float32
		for hour := range hours {
			heads = append(heads, day[hour%12])
		}
		want := c.g
		want.Heads[0] = heads[hours-1]
		wantRun(t, "the fixed cell", c, hours, 0, want, heads, impl.OK)
		for hour := range heads {
			heads[hour] = 6
		}
		wantRun(t, "a cell that is not fixed", c, hours, 1, want, heads, impl.OK)
	}
	wantRun(t, "no hour", c, 0, 1, c.g, nil, impl.OK)
	c.part = 0.25
	wantRun(t, "no hour", c, 0, 0, c.g, nil, impl.OK)
	wantRun(t, "one hour", c, 1, 8, withHeads(c.g, impl.Field{0: 7, 1: 5.5, 2: 5.5, 8: 6, 9: 5.5, 10: 5}), []float32{6}, impl.OK)
	c.w = 0
	wantRun(t, "no tide", c, 1, 1, withHeads(c.g, impl.Field{0: 5, 1: 4.5, 2: 5.5, 8: 5, 9: 5.5, 10: 5}), []float32{4.5}, impl.OK)
	wantRun(t, "no tide, twice", c, 2, 1, withHeads(c.g, impl.Field{0: 5, 1: 5.75, 2: 4.75, 8: 5.25, 9: 4.5, 10: 5.5}), []float32{4.5, 5.75}, impl.OK)
}

func TestTideRunKeepsSigns(t *testing.T) {
	c := tideCall{even(t, 2, 2, 0, negativeZero), negativeZero, 0, 1}
	// The products of 0 and of what is less than 0 are -0.
	fixed := []float32{0, 0, 0, 0, negativeZero, negativeZero, negativeZero, 0, 0, 0, 0, 0}
	wantRun(t, "a fixed cell", c, 12, 0, withHeads(c.g, impl.Field{}), fixed, impl.OK)
	want := withHeads(c.g, impl.Field{0: negativeZero})
	wantRun(t, "a fixed cell, until its head is -0", c, 7, 0, want, fixed[:7], impl.OK)
	c.g.Gain[9] = negativeZero
	// Its neighbours have 0 behind the first step, and so it loses 0 times -0 in the second one.
	wantRun(t, "a cell whose balance is -0 once", c, 3, 9, withHeads(c.g, impl.Field{}), []float32{negativeZero, 0, 0}, impl.OK)
}

func TestTidesThatAreNotPlain(t *testing.T) {
	const most = impl.MaxSize
	g := even(t, 2, 2, 0, 0)
	for _, c := range []struct {
		mean float32
		w    impl.Wave
		// first is the first hour of a day at which the head is not plain.
		first int64
	}{
		{most, waveOf(1, 0), 0},
		{most, waveOf(-1, 0), 4},
		{most, waveOf(0, 1), 7},
		{most, waveOf(0, -1), 1},
		{-most, waveOf(0, 1), 1},
		{-most, waveOf(1, 0), 4},
		{most, waveOf(0.125, 0), 0},
		{most, waveOf(0, 0.125), 8},
		{0, waveOf(most, most), 4},
		{0, waveOf(-most, most), 1},
		{most - 1, waveOf(0, 1.125), 9},
	} {
		call := tideCall{g, c.mean, c.w, 0.25}
		for hour := range int64(12) {
			want := g
			want.Heads[0] = headOf(c.mean, c.w, hour)
			if math.Abs(float64(want.Heads[0])) <= most {
				wantTide(t, fmt.Sprint(c), call, hour, want, impl.OK)
			} else {
				wantTide(t, fmt.Sprint(c), call, hour, impl.Ground{}, impl.ErrState)
				wantTide(t, fmt.Sprint(c), call, hour+12, impl.Ground{}, impl.ErrState)
			}
		}
		want, heads, code := tidesOf(g, c.mean, c.w, 0.25, c.first, 0)
		wantCode(t, "steps written down", code, impl.OK)
		wantRun(t, fmt.Sprint("ahead of the error, ", c), call, c.first, 0, want, heads, impl.OK)
		for _, hours := range []int64{c.first + 1, c.first + 2, 12, impl.MaxHours} {
			wantNoRun(t, fmt.Sprint("an error at ", c.first, ", ", c), call, hours, 0, impl.ErrState)
		}
	}
	for _, w := range []impl.Wave{waveOf(0.03125, 0), waveOf(0, 0.0625), 0} {
		call := tideCall{allFixed(t), most, w, 0.25}
		want, heads, code := tidesOf(call.g, most, w, 0.25, impl.MaxHours, 10)
		wantCode(t, "steps written down", code, impl.OK)
		wantRun(t, fmt.Sprint("just as much as may be, ", w), call, impl.MaxHours, 10, want, heads, impl.OK)
	}
}

func TestTideStepsToNoGround(t *testing.T) {
	const most = impl.MaxSize
	c := tideCall{welling(t, 0, most/4), 0, waveOf(1, 0), 1}
	want, heads, code := tidesOf(c.g, 0, c.w, 1, 4, 9)
	wantCode(t, "steps written down", code, impl.OK)
	wantRun(t, "a head that becomes as great as may be", c, 4, 9, want, heads, impl.OK)
	wantNoRun(t, "a head that becomes too great", c, 5, 9, impl.ErrState)
	wantNoRun(t, "a head that becomes too great, in another cell", c, 5, 1, impl.ErrState)
	wantNoRun(t, "a head that becomes too great, long ago", c, impl.MaxHours, 9, impl.ErrState)
	c.part = most
	for _, hour := range []int64{0, 5, 100000} {
		wantTide(t, "a head that is too great", c, hour, impl.Ground{}, impl.ErrState)
	}
	wantNoRun(t, "a head that is too great at once", c, 1, 9, impl.ErrState)
	wantRun(t, "no step", c, 0, 9, c.g, nil, impl.OK)
	c.g.Fixed |= 1 << 9
	want, code = tideOf(c.g, 0, c.w, 0, most)
	wantTide(t, "a gain in a fixed cell", c, 0, want, code)
	wantCode(t, "a gain in a fixed cell", code, impl.OK)
}

// wrongTideCalls returns calls that are not valid, each in one way or in several ones.
func wrongTideCalls(t *testing.T) map[string]tideCall {
	t.Helper()
	good := tideCall{example(t), 5, waveOf(2, 0), 0.25}
	calls := map[string]tideCall{}
	for i, broken := range brokenGrounds(t) {
		c := good
		c.g = broken.ground
		calls[fmt.Sprint("the ground ", i, " with ", broken.name)] = c
		c.mean, c.w, c.part = notANumber, waveOf(infinite, 0), infinite
		calls[fmt.Sprint("all wrong, the ground ", i, " with ", broken.name)] = c
	}
	for i, a := range notPlain {
		c := good
		c.mean = a
		calls[fmt.Sprint("the mean ", i)] = c
		c = good
		c.part = a
		calls[fmt.Sprint("the part ", i)] = c
	}
	for i, w := range wrongWaves() {
		c := good
		c.w = w
		calls[fmt.Sprint("the wave ", i)] = c
	}
	return calls
}

func TestTidesCheckArguments(t *testing.T) {
	for name, c := range wrongTideCalls(t) {
		for _, hour := range append([]int64{0, 7, 100000}, hoursWithoutTurn...) {
			wantTide(t, name, c, hour, impl.Ground{}, impl.ErrInvalid)
		}
		for _, hours := range append([]int64{0, 1, impl.MaxHours}, wrongHours...) {
			for _, cell := range append([]int64{0}, wrongCells...) {
				wantNoRun(t, name, c, hours, cell, impl.ErrInvalid)
			}
		}
	}
	// The head of the second call is not plain, and its step would lead to no ground; neither is looked at.
	for _, c := range []tideCall{{example(t), 5, waveOf(2, 0), 0.25}, {welling(t, 0, 1), impl.MaxSize, waveOf(1, 0), impl.MaxSize}} {
		for _, hour := range hoursWithoutTurn {
			wantTide(t, "a wrong hour", c, hour, impl.Ground{}, impl.ErrRange)
		}
		for _, hours := range wrongHours {
			wantNoRun(t, "a wrong number of hours", c, hours, 0, impl.ErrRange)
		}
		for _, cell := range append([]int64{18}, wrongCells...) {
			for _, hours := range append([]int64{0, 1, impl.MaxHours}, wrongHours...) {
				list, code := impl.HeadsOverTime(c.g, c.mean, c.w, c.part, hours, cell)
				wantNumbers(t, fmt.Sprint("HeadsOverTime of the cell ", cell), list, code, nil, impl.ErrRange)
			}
		}
	}
}

func TestTidesOfMany(t *testing.T) {
	steps, runs := map[int64]int{}, map[int64]int{}
	r := rand.New(rand.NewSource(89))
	for i, g := range manyGrounds(400) {
		for range 3 {
			c := tideCall{g, float32(20 * r.NormFloat64()), turningWave(r, 10*r.Float64()), float32(0.1 * r.Float64())}
			if r.Intn(3) == 0 {
				c.mean, c.w, c.part = randomPlain(r), randomWave(r), randomPlain(r)
			}
			hour := int64(r.Intn(100001))
			want, code := tideOf(g, c.mean, c.w, hour, c.part)
			wantTide(t, fmt.Sprint("the ground ", i), c, hour, want, code)
			steps[code]++
			hours, cells := int64(r.Intn(30)), cellsOf(g)
			cell := cells[r.Intn(len(cells))]
			want, heads, code := tidesOf(g, c.mean, c.w, c.part, hours, cell)
			wantRun(t, fmt.Sprint("the ground ", i), c, hours, cell, want, heads, code)
			runs[code]++
		}
	}
	wantAllCodes(t, "TideStep", steps, 200, impl.OK, impl.ErrState)
	wantAllCodes(t, "TideRun", runs, 200, impl.OK, impl.ErrState)
	for i, g := range calmGrounds(20) {
		c := tideCall{g, 3, waveOf(4, -1), 0.02}
		want, heads, code := tidesOf(g, c.mean, c.w, c.part, impl.MaxHours, 1)
		wantRun(t, fmt.Sprint("as many hours as there may be, of the ground ", i), c, impl.MaxHours, 1, want, heads, code)
	}
}
