package tests

import (
	"fmt"
	"math"
	"math/rand"
	"slices"
	"testing"

	"loop.example/g01288/impl"
)

// wrongHours are numbers of steps or of hours that can't be asked for.
var wrongHours = []int64{-1, impl.MaxHours + 1, 1 << 32, 1<<32 + 1, math.MaxInt64, math.MinInt64}

// hoursWithoutTurn are hours of which there is no turn.
var hoursWithoutTurn = []int64{-1, -12, 100001, 100008, 1 << 32, 1<<32 + 3, math.MaxInt64, math.MinInt64}

// wrongWaveCells are numbers of cells, or of times, that can't be asked for.
var wrongWaveCells = []int64{-1, impl.MaxCells + 1, 256, 1 << 32, 1<<32 + 1, math.MaxInt64, math.MinInt64}

// wrongWaves returns waves that are not valid, each in one way.
func wrongWaves() []impl.Wave {
	var list []impl.Wave
	for _, a := range notPlain {
		list = append(list, waveOf(a, 1), waveOf(1, a), waveOf(a, a))
	}
	return list
}

func waveOf(x, y float32) impl.Wave { return impl.Wave(complex(x, y)) }

func firstOf(w impl.Wave) float32  { return real(complex64(w)) }
func secondOf(w impl.Wave) float32 { return imag(complex64(w)) }

// sameWave judges without the program.
func sameWave(a, b impl.Wave) bool {
	return sameBits(firstOf(a), firstOf(b)) && sameBits(secondOf(a), secondOf(b))
}

func isPlainWave(w impl.Wave) bool {
	return math.Abs(float64(firstOf(w))) <= impl.MaxSize && math.Abs(float64(secondOf(w))) <= impl.MaxSize
}

// oddWaves returns the waves of all pairs of odd numbers.
func oddWaves() []impl.Wave {
	var list []impl.Wave
	for _, x := range oddNumbers {
		for _, y := range oddNumbers {
			list = append(list, waveOf(x, y))
		}
	}
	return list
}

// plainOddWaves returns those of the odd waves that are valid.
func plainOddWaves() []impl.Wave {
	return slices.DeleteFunc(oddWaves(), func(w impl.Wave) bool { return !isPlainWave(w) })
}

// signed returns a number or its opposite.
func signed(r *rand.Rand, a float32) float32 {
	if r.Intn(2) == 0 {
		return -a
	}
	return a
}

// turningWave returns a wave of nearly the given size.
func turningWave(r *rand.Rand, size float64) impl.Wave {
	angle := 2 * math.Pi * r.Float64()
	return waveOf(float32(size*math.Cos(angle)), float32(size*math.Sin(angle)))
}

// randomWave returns a valid wave; some of them have numbers at edges, some such that are subnormal, and some whole ones.
func randomWave(r *rand.Rand) impl.Wave {
	switch r.Intn(4) {
	case 0:
		return waveOf(randomPlain(r), randomPlain(r))
	case 1:
		return waveOf(signed(r, tinyAmount(r)), signed(r, tinyAmount(r)))
	case 2:
		return waveOf(float32(r.Intn(7)-3), float32(r.Intn(7)-3))
	}
	return turningWave(r, math.Exp2(20*r.Float64()-5))
}

// What follows is written down step by step from chapter 6.

func turnOf(hour int64) impl.Wave {
	r, h := math.Float32frombits(0x3f5db3d7), float32(0.5)
	pairs := [][2]float32{{1, 0}, {r, h}, {h, r}, {0, 1}, {-h, r}, {-r, h}, {-1, 0}, {-r, -h}, {-h, -r}, {0, -1}, {h, -r}, {r, -h}}
	return waveOf(pairs[hour%12][0], pairs[hour%12][1])
}

func productOf(p, q impl.Wave) impl.Wave {
	a, b, c, d := firstOf(p), secondOf(p), firstOf(q), secondOf(q)
	return waveOf(minus(times(a, c), times(b, d)), plus(times(a, d), times(b, c)))
}

func waveSizeOf(w impl.Wave) float32 {
	square := plus(times(firstOf(w), firstOf(w)), times(secondOf(w), secondOf(w)))
	return float32(math.Sqrt(float64(square)))
}

func powerOf(w impl.Wave, n int64) (impl.Wave, int64) {
	power := waveOf(1, 0)
	for range n {
		power = productOf(power, w)
	}
	if !isPlainWave(power) {
		return 0, impl.ErrState
	}
	return power, impl.OK
}

func inlandOf(edge, factor impl.Wave, cells int64) ([]impl.Wave, int64) {
	var list []impl.Wave
	for cell := range cells {
		if cell == 0 {
			list = append(list, edge)
		} else {
			list = append(list, productOf(list[cell-1], factor))
		}
		if !isPlainWave(list[cell]) {
			return nil, impl.ErrState
		}
	}
	return list, impl.OK
}

func headOf(mean float32, w impl.Wave, hour int64) float32 {
	return plus(mean, firstOf(productOf(w, turnOf(hour))))
}

func highestOf(w impl.Wave) int64 {
	highest := int64(0)
	for hour := range int64(12) {
		if headOf(0, w, hour) > headOf(0, w, highest) {
			highest = hour
		}
	}
	return highest
}

func delayOf(edge, factor impl.Wave, cell int64) (int64, int64) {
	list, code := inlandOf(edge, factor, cell+1)
	if code != impl.OK {
		return 0, code
	}
	return (highestOf(list[cell]) - highestOf(edge) + 12) % 12, impl.OK
}

func loggedOf(mean float32, w impl.Wave) [12]int16 {
	levels := [12]int16{}
	for hour := range levels {
		levels[hour] = loggerOf(headOf(mean, w, int64(hour)))
	}
	return levels
}

func waveFromOf(levels [12]int16) (float32, impl.Wave) {
	mean := divided(float32(levels[0]), 16)
	for _, level := range levels[1:] {
		mean = plus(mean, divided(float32(level), 16))
	}
	mean = divided(mean, 12)
	var first, second float32
	for hour, level := range levels {
		above := minus(divided(float32(level), 16), mean)
		c := times(above, firstOf(turnOf(int64(hour))))
		s := minus(0, times(above, secondOf(turnOf(int64(hour)))))
		if hour == 0 {
			first, second = c, s
		} else {
			first, second = plus(first, c), plus(second, s)
		}
	}
	return mean, waveOf(divided(first, 6), divided(second, 6))
}

func cellsUntilOf(edge, factor impl.Wave, small float32) (int64, int64) {
	wave := edge
	for n := range int64(60) {
		if !isPlainWave(wave) {
			return 0, impl.ErrState
		}
		if waveSizeOf(wave) <= small {
			return n, impl.OK
		}
		wave = productOf(wave, factor)
	}
	return 0, impl.ErrNotFound
}

// seepOf returns the ground behind a step without a tide.
func seepOf(g impl.Ground, part float32) (impl.Ground, int64) {
	after := g
	for _, cell := range cellsOf(g) {
		if !isFixed(g, cell) {
			after.Heads[cell] = plus(g.Heads[cell], times(part, balanceOf(g, cell)))
		}
		if !(math.Abs(float64(after.Heads[cell])) <= impl.MaxSize) {
			return impl.Ground{}, impl.ErrState
		}
	}
	return after, impl.OK
}

func seepsOf(g impl.Ground, part float32, steps int64) (impl.Ground, int64) {
	code := int64(impl.OK)
	for range steps {
		if g, code = seepOf(g, part); code != impl.OK {
			break
		}
	}
	return g, code
}

func stillOf(g impl.Ground, part, small float32, most int64) (impl.Ground, int64, int64) {
	for made := int64(0); ; made++ {
		still := true
		for _, cell := range cellsOf(g) {
			still = still && (isFixed(g, cell) || sizeOf(balanceOf(g, cell)) <= small)
		}
		if still {
			return g, made, impl.OK
		}
		if made == most {
			return impl.Ground{}, 0, impl.ErrBudget
		}
		code := int64(impl.OK)
		if g, code = seepOf(g, part); code != impl.OK {
			return impl.Ground{}, 0, code
		}
	}
}

func tideOf(g impl.Ground, mean float32, w impl.Wave, hour int64, part float32) (impl.Ground, int64) {
	for _, cell := range cellsOf(g) {
		if isFixed(g, cell) {
			g.Heads[cell] = headOf(mean, w, hour)
		}
	}
	return seepOf(g, part)
}

// tidesOf returns the ground behind some tide steps, and the heads of a cell behind each of them.
func tidesOf(g impl.Ground, mean float32, w impl.Wave, part float32, hours, cell int64) (impl.Ground, []float32, int64) {
	var heads []float32
	for hour := range hours {
		code := int64(impl.OK)
		if g, code = tideOf(g, mean, w, hour, part); code != impl.OK {
			return impl.Ground{}, nil, code
		}
		heads = append(heads, g.Heads[cell])
	}
	return g, heads, impl.OK
}

// waveBits tells of a wave with the bits of its parts.
func waveBits(w impl.Wave) string {
	return fmt.Sprintf("%v (%08x %08x)", w, math.Float32bits(firstOf(w)), math.Float32bits(secondOf(w)))
}

func wantWave(t *testing.T, name string, got, want impl.Wave) {
	t.Helper()
	if !sameWave(got, want) {
		t.Errorf("%s: %s, want %s", name, waveBits(got), waveBits(want))
	}
}

// wantWaveResult checks a wave that is returned with a code.
func wantWaveResult(t *testing.T, name string, got impl.Wave, code int64, want impl.Wave, wantedCode int64) {
	t.Helper()
	wantCode(t, name, code, wantedCode)
	wantWave(t, name, got, want)
}

func wantWaves(t *testing.T, name string, got []impl.Wave, code int64, want []impl.Wave, wantedCode int64) {
	t.Helper()
	wantCode(t, name, code, wantedCode)
	if !slices.EqualFunc(got, want, sameWave) {
		t.Errorf("%s: %v, want %v", name, got, want)
	}
}

// wantGroundAndCount checks a ground and a number of steps that are returned with a code.
func wantGroundAndCount(t *testing.T, name string, got impl.Ground, count, code int64, want impl.Ground, wantedCount, wantedCode int64) {
	t.Helper()
	wantGround(t, name, got, code, want, wantedCode)
	if count != wantedCount {
		t.Errorf("%s: %d steps, want %d", name, count, wantedCount)
	}
}

// wantAllCodes tells of codes that are other ones than those that are expected.
func wantAllCodes(t *testing.T, name string, codes map[int64]int, least int, wanted ...int64) {
	t.Helper()
	for _, code := range wanted {
		if codes[code] < least {
			t.Errorf("%s: only %d of them have the code %d", name, codes[code], code)
		}
	}
	if len(codes) > len(wanted) {
		t.Error(fmt.Sprint(name, ": there are other codes than ", wanted, ": ", codes))
	}
}
