package tests

import (
	"fmt"
	"math"
	"math/rand"
	"testing"

	"loop.example/g01288/impl"
)

func wantHead(t *testing.T, mean float32, w impl.Wave, hour int64, want float32, wantedCode int64) {
	t.Helper()
	head, code := impl.HeadAtHour(mean, w, hour)
	wantResult(t, fmt.Sprint("HeadAtHour ", mean, w, hour), head, code, want, wantedCode)
}

func TestHeadAtHour(t *testing.T) {
	r := firstOf(turnOf(1))
	for hour, want := range []float32{7, plus(5, times(2, r)), 6, 5, 4, plus(5, times(-2, r)), 3, plus(5, times(-2, r)), 4, 5, 6, plus(5, times(2, r))} {
		wantHead(t, 5, waveOf(2, 0), int64(hour), want, impl.OK)
		wantHead(t, 5, waveOf(2, 0), int64(hour+12), want, impl.OK)
		wantHead(t, 5, waveOf(2, 0), int64(hour+99972), want, impl.OK)
	}
	for hour, want := range []float32{0, -1, times(-2, r), -2, times(-2, r), -1, 0, 1, times(2, r), 2, times(2, r), 1} {
		wantHead(t, 0, waveOf(0, 2), int64(hour), want, impl.OK)
	}
	wantHead(t, 5, waveOf(2, 0), 100000, 4, impl.OK)
	// The signs of 0 are those of the sums and products, with the parts of the turns, none of which is -0.
	for _, c := range []struct {
		mean float32
		wave impl.Wave
		hour int64
		want float32
	}{
		{0, waveOf(negativeZero, 0), 0, 0},
		{negativeZero, waveOf(negativeZero, 0), 0, negativeZero},
		{negativeZero, waveOf(negativeZero, negativeZero), 0, 0},
		{negativeZero, waveOf(0, 0), 0, 0},
		{negativeZero, waveOf(0, 0), 6, negativeZero},
		{negativeZero, waveOf(0, negativeZero), 6, 0},
		{negativeZero, waveOf(negativeZero, 0), 3, negativeZero},
		{negativeZero, waveOf(0, negativeZero), 3, 0},
		{negativeZero, waveOf(negativeZero, negativeZero), 9, negativeZero},
		{negativeZero, waveOf(-least, 0), 2, negativeZero},
		{negativeZero, waveOf(0, least), 1, 0},
		{negativeZero, waveOf(negativeZero, least), 1, negativeZero},
		{negativeZero, waveOf(0, -least), 1, 0},
		// Parts that are subnormal: the product by R is the least number again.
		{0, waveOf(least, 0), 0, least},
		{0, waveOf(least, 0), 1, least},
		{0, waveOf(least, 0), 2, 0},
		{least, waveOf(-least, 0), 1, 0},
		{0, waveOf(3*least, 0), 2, 2 * least},
		{0, waveOf(0, least), 8, least},
		// The head need not be plain.
		{impl.MaxSize, waveOf(impl.MaxSize, 0), 0, 2 * impl.MaxSize},
		{-impl.MaxSize, waveOf(impl.MaxSize, impl.MaxSize), 6, -2 * impl.MaxSize},
		{impl.MaxSize, waveOf(0, 1), 3, impl.MaxSize - 1},
		{impl.MaxSize, waveOf(0.03125, 0), 0, impl.MaxSize},
		{impl.MaxSize, waveOf(0.125, 0), 0, impl.MaxSize + 0.125},
	} {
		wantHead(t, c.mean, c.wave, c.hour, c.want, impl.OK)
	}
	for _, hour := range hoursWithoutTurn {
		wantHead(t, 5, waveOf(2, 0), hour, 0, impl.ErrRange)
	}
	for _, hour := range append([]int64{0, 11, 12, 100000}, hoursWithoutTurn...) {
		for _, mean := range notPlain {
			wantHead(t, mean, waveOf(2, 0), hour, 0, impl.ErrInvalid)
		}
		for _, w := range wrongWaves() {
			wantHead(t, 5, w, hour, 0, impl.ErrInvalid)
		}
	}
}

func wantHighest(t *testing.T, w impl.Wave, want, wantedCode int64) {
	t.Helper()
	hour, code := impl.HighestHour(w)
	wantCount(t, fmt.Sprint("HighestHour ", w), hour, code, want, wantedCode)
}

func TestHighestHour(t *testing.T) {
	for hour := range int64(12) {
		turn := turnOf(hour)
		wantHighest(t, waveOf(7*firstOf(turn), -7*secondOf(turn)), hour, impl.OK)
	}
	for _, c := range []struct {
		wave impl.Wave
		want int64
	}{
		{waveOf(2, 0), 0},
		{waveOf(0, -2), 3},
		{waveOf(-2, 0), 6},
		{waveOf(0, 2), 9},
		// Two hours with the same head.
		{waveOf(1, 1), 10},
		{waveOf(1, -1), 1},
		{waveOf(-1, 1), 7},
		{waveOf(-1, -1), 4},
		{waveOf(impl.MaxSize, impl.MaxSize), 10},
		{waveOf(-impl.MaxSize, impl.MaxSize), 7},
		// Three of them, because the least number times R is nearest to itself.
		{waveOf(least, 0), 0},
		{waveOf(0, -least), 2},
		{waveOf(-least, 0), 5},
		{waveOf(0, least), 8},
		// All of them, whatever the signs of 0 are.
		{waveOf(0, 0), 0},
		{waveOf(negativeZero, 0), 0},
		{waveOf(0, negativeZero), 0},
		{waveOf(negativeZero, negativeZero), 0},
	} {
		wantHighest(t, c.wave, c.want, impl.OK)
	}
	for _, w := range wrongWaves() {
		wantHighest(t, w, 0, impl.ErrInvalid)
	}
}

func TestHeadsOfMany(t *testing.T) {
	r := rand.New(rand.NewSource(84))
	waves := plainOddWaves()
	for range 5000 {
		waves = append(waves, randomWave(r))
	}
	for _, w := range waves {
		wantHighest(t, w, highestOf(w), impl.OK)
		mean := randomPlain(r)
		for hour := range int64(12) {
			wantHead(t, mean, w, hour, headOf(mean, w, hour), impl.OK)
			wantHead(t, negativeZero, w, hour+12*int64(r.Intn(8000)), headOf(negativeZero, w, hour), impl.OK)
		}
		wantLogged(t, mean, w, loggedOf(mean, w), impl.OK)
		mean = float32(4400*r.Float64() - 2200)
		wantLogged(t, mean, w, loggedOf(mean, w), impl.OK)
	}
}

func wantLogged(t *testing.T, mean float32, w impl.Wave, want [12]int16, wantedCode int64) {
	t.Helper()
	levels, code := impl.LoggedTide(mean, w)
	wantCode(t, fmt.Sprint("LoggedTide ", mean, w), code, wantedCode)
	if levels != want {
		t.Errorf("LoggedTide %v %v: %v, want %v", mean, w, levels, want)
	}
}

func TestLoggedTide(t *testing.T) {
	wantLogged(t, 5, waveOf(2, 0), [12]int16{112, 108, 96, 80, 64, 52, 48, 52, 64, 80, 96, 108}, impl.OK)
	wantLogged(t, 0, waveOf(0, 1), [12]int16{0, -8, -14, -16, -14, -8, 0, 8, 14, 16, 14, 8}, impl.OK)
	wantLogged(t, 0, 0, [12]int16{}, impl.OK)
	wantLogged(t, 1.0/32, 0, [12]int16{1, 1, 1, 1, 1, 1, 1, 1, 1, 1, 1, 1}, impl.OK)
	const most, fewest = math.MaxInt16, math.MinInt16
	wantLogged(t, 0, waveOf(impl.MaxSize, 0), [12]int16{most, most, most, 0, fewest, fewest, fewest, fewest, fewest, 0, most, most}, impl.OK)
	wantLogged(t, impl.MaxSize, waveOf(impl.MaxSize, 0), [12]int16{most, most, most, most, most, most, 0, most, most, most, most, most}, impl.OK)
	for _, mean := range notPlain {
		wantLogged(t, mean, waveOf(2, 0), [12]int16{}, impl.ErrInvalid)
	}
	for _, w := range wrongWaves() {
		wantLogged(t, 5, w, [12]int16{}, impl.ErrInvalid)
		wantLogged(t, notANumber, w, [12]int16{}, impl.ErrInvalid)
	}
}

func wantSeen(t *testing.T, levels [12]int16, wantedMean float32, want impl.Wave) {
	t.Helper()
	mean, w := impl.WaveFrom(levels)
	wantNumber(t, fmt.Sprint("WaveFrom, the mean of ", levels), mean, wantedMean)
	wantWave(t, fmt.Sprint("WaveFrom ", levels), w, want)
}

// evenDay returns the levels of a day without a tide.
func evenDay(level int16) [12]int16 {
	levels := [12]int16{}
	for hour := range levels {
		levels[hour] = level
	}
	return levels
}

func TestWaveFrom(t *testing.T) {
	const most, fewest = math.MaxInt16, math.MinInt16
	wantSeen(t, [12]int16{}, 0, 0)
	for _, level := range []int16{1, -1, 16, 1000, -1000, most, fewest} {
		// Sums are exact here, and what is above the mean is 0, with no sign.
		wantSeen(t, evenDay(level), float32(level)/16, 0)
	}
	r, third, sixth := firstOf(turnOf(1)), divided(1, 3), divided(1, 6)
	wantSeen(t, [12]int16{0: 16, 6: -16}, 0, waveOf(third, 0))
	wantSeen(t, [12]int16{0: -16, 6: 16}, 0, waveOf(-third, 0))
	wantSeen(t, [12]int16{3: 16, 9: -16}, 0, waveOf(0, -third))
	wantSeen(t, [12]int16{3: -16, 9: 16}, 0, waveOf(0, third))
	wantSeen(t, [12]int16{1: 16, 7: -16}, 0, waveOf(divided(times(2, r), 6), -sixth))
	wantSeen(t, [12]int16{2: 16, 8: -16}, 0, waveOf(sixth, divided(times(-2, r), 6)))
	wantSeen(t, [12]int16{4: 16, 10: -16}, 0, waveOf(-sixth, divided(times(-2, r), 6)))
	wantSeen(t, [12]int16{5: most, 11: -most}, 0, waveOf(divided(times(-2*2047.9375, r), 6), divided(-2047.9375, 6)))
	wantSeen(t, [12]int16{fewest, fewest, fewest, fewest, fewest, fewest, most, most, most, most, most, most}, -0.03125, waveOf(-682.65625, 2547.7078))
}

// These days are calculated hour by hour.
func TestWaveFromHourByHour(t *testing.T) {
	levels := [12]int16{math.MaxInt16, math.MinInt16, 0, 1, -1, 17, 5, math.MinInt16, math.MaxInt16, 3, 16384, -77}
	mean, w := waveFromOf(levels)
	wantSeen(t, levels, mean, w)
	for hour := range levels {
		for _, level := range []int16{math.MinInt16, math.MaxInt16, 1, -1, 1000} {
			one := [12]int16{}
			one[hour] = level
			mean, w = waveFromOf(one)
			wantSeen(t, one, mean, w)
			one = evenDay(level)
			one[hour] = 7
			mean, w = waveFromOf(one)
			wantSeen(t, one, mean, w)
		}
	}
	r := rand.New(rand.NewSource(85))
	for range 20000 {
		for hour := range levels {
			levels[hour] = randomLevel(r)
		}
		mean, w = waveFromOf(levels)
		wantSeen(t, levels, mean, w)
	}
}

// What is logged of a tide gives nearly the mean and the wave back.
func TestWaveFromLoggedTides(t *testing.T) {
	r := rand.New(rand.NewSource(86))
	for range 2000 {
		mean, w := float32(1000*r.Float64()-500), turningWave(r, 1000*r.Float64())
		levels, code := impl.LoggedTide(mean, w)
		wantCode(t, "LoggedTide", code, impl.OK)
		seen, back := impl.WaveFrom(levels)
		for _, gap := range []float32{seen - mean, firstOf(back) - firstOf(w), secondOf(back) - secondOf(w)} {
			if math.Abs(float64(gap)) > 0.06 {
				t.Fatalf("the mean %v and the wave %v are seen as %v and %v", mean, w, seen, back)
			}
		}
	}
}
