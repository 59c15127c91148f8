package tests

import (
	"fmt"
	"math"
	"math/rand"
	"testing"

	"loop.example/g01288/impl"
)

func wantInland(t *testing.T, edge, factor impl.Wave, cells int64, want []impl.Wave, wantedCode int64) {
	t.Helper()
	waves, code := impl.WavesInland(edge, factor, cells)
	wantWaves(t, fmt.Sprint("WavesInland ", edge, factor, cells), waves, code, want, wantedCode)
}

func TestWavesInland(t *testing.T) {
	eight, half := waveOf(8, 0), waveOf(0.5, 0)
	wantInland(t, eight, half, 0, nil, impl.OK)
	wantInland(t, eight, half, 1, []impl.Wave{eight}, impl.OK)
	wantInland(t, eight, half, 3, []impl.Wave{eight, waveOf(4, 0), waveOf(2, 0)}, impl.OK)
	wantInland(t, waveOf(0, 8), waveOf(0, -0.5), 3, []impl.Wave{waveOf(0, 8), waveOf(4, 0), waveOf(0, -2)}, impl.OK)
	// The wave of the edge is as it is, and the next ones have the signs of 0 of the products.
	wantInland(t, waveOf(negativeZero, negativeZero), waveOf(1, 0), 3, []impl.Wave{waveOf(negativeZero, negativeZero), waveOf(0, negativeZero), waveOf(0, 0)}, impl.OK)
	wantInland(t, waveOf(-least, 0), half, 3, []impl.Wave{waveOf(-least, 0), waveOf(negativeZero, 0), waveOf(negativeZero, 0)}, impl.OK)
	wantInland(t, waveOf(3*least, 0), half, 4, []impl.Wave{waveOf(3*least, 0), waveOf(2*least, 0), waveOf(least, 0), 0}, impl.OK)
	many := make([]impl.Wave, impl.MaxCells)
	for cell := range many {
		many[cell] = waveOf(float32(math.Ldexp(8, -cell)), 0)
	}
	wantInland(t, eight, half, impl.MaxCells, many, impl.OK)
	for _, cells := range wrongWaveCells {
		wantInland(t, eight, half, cells, nil, impl.ErrRange)
		wantInland(t, eight, waveOf(impl.MaxSize, 0), cells, nil, impl.ErrRange)
	}
	for _, w := range wrongWaves() {
		for _, cells := range append([]int64{0, 1, 3}, wrongWaveCells...) {
			wantInland(t, w, half, cells, nil, impl.ErrInvalid)
			wantInland(t, eight, w, cells, nil, impl.ErrInvalid)
		}
	}
}

func TestWavesInlandThatAreNotPlain(t *testing.T) {
	wide := waveOf(impl.MaxSize, 0)
	for _, c := range []struct {
		edge, factor impl.Wave
		cells        int64
		code         int64
	}{
		{wide, wide, 1, impl.OK},
		{wide, wide, 2, impl.ErrState},
		{wide, waveOf(1, 0), impl.MaxCells, impl.OK},
		{wide, waveOf(justAbove(1), 0), 1, impl.OK},
		{wide, waveOf(justAbove(1), 0), 2, impl.ErrState},
		{wide, waveOf(0, justAbove(1)), 2, impl.ErrState},
		{waveOf(1, 0), waveOf(2, 0), 21, impl.OK},
		{waveOf(1, 0), waveOf(2, 0), 22, impl.ErrState},
		{waveOf(1, 0), waveOf(2, 0), impl.MaxCells, impl.ErrState},
		{waveOf(0, 1), waveOf(0, -4), 11, impl.OK},
		{waveOf(0, 1), waveOf(0, -4), 12, impl.ErrState},
		{waveOf(impl.MaxSize, impl.MaxSize), waveOf(impl.MaxSize, 1), impl.MaxCells, impl.ErrState},
		// It is one of them that is not valid, though the last one is.
		{waveOf(1, 0), waveOf(0.9235, 0.9235), 52, impl.OK},
		{waveOf(1, 0), waveOf(0.9235, 0.9235), 53, impl.ErrState},
		{waveOf(1, 0), waveOf(0.9235, 0.9235), 54, impl.ErrState},
	} {
		waves, code := impl.WavesInland(c.edge, c.factor, c.cells)
		wantCode(t, fmt.Sprint("WavesInland ", c), code, c.code)
		if code == impl.OK && len(waves) != int(c.cells) || code != impl.OK && len(waves) > 0 {
			t.Errorf("WavesInland %v are %v", c, waves)
		}
		_, code = impl.DelayInland(c.edge, c.factor, c.cells-1)
		wantCode(t, fmt.Sprint("DelayInland ", c), code, c.code)
	}
}

func wantDelay(t *testing.T, edge, factor impl.Wave, cell, want, wantedCode int64) {
	t.Helper()
	delay, code := impl.DelayInland(edge, factor, cell)
	wantCount(t, fmt.Sprint("DelayInland ", edge, factor, cell), delay, code, want, wantedCode)
}

func TestDelayInland(t *testing.T) {
	eight := waveOf(8, 0)
	wantDelay(t, eight, waveOf(0, -0.5), 0, 0, impl.OK)
	wantDelay(t, eight, waveOf(0, -0.5), 1, 3, impl.OK)
	wantDelay(t, eight, waveOf(0, -0.5), 2, 6, impl.OK)
	wantDelay(t, eight, waveOf(0, -0.5), 3, 9, impl.OK)
	wantDelay(t, eight, waveOf(0, -0.5), 4, 0, impl.OK)
	wantDelay(t, eight, waveOf(0, 0.5), 1, 9, impl.OK)
	wantDelay(t, waveOf(0, 8), waveOf(0, 0.5), 1, 9, impl.OK)
	wantDelay(t, waveOf(0, 8), waveOf(0, -0.5), 1, 3, impl.OK)
	wantDelay(t, waveOf(0, -8), waveOf(0, 0.5), 1, 9, impl.OK)
	wantDelay(t, waveOf(0, -8), waveOf(-0.5, 0), 1, 6, impl.OK)
	// From the hour 9 to the hour 0 it is three hours later, and from 0 to 9 nine ones.
	wantDelay(t, waveOf(0, 8), waveOf(0, -0.5), impl.MaxCells-1, 9, impl.OK)
	wantDelay(t, eight, waveOf(-1, 0), impl.MaxCells-1, 6, impl.OK)
	// A wave that is 0, or has become so, is highest at the hour 0.
	wantDelay(t, 0, waveOf(0, 1), 5, 0, impl.OK)
	wantDelay(t, waveOf(0, -1), 0, 1, 9, impl.OK)
	wantDelay(t, waveOf(-least, 0), waveOf(0.5, 0), 1, 7, impl.OK)
	for _, cell := range []int64{-1, impl.MaxCells, impl.MaxCells + 1, 256, 1 << 32, math.MaxInt64, math.MinInt64} {
		wantDelay(t, eight, waveOf(0.5, 0), cell, 0, impl.ErrRange)
		wantDelay(t, eight, waveOf(impl.MaxSize, 0), cell, 0, impl.ErrRange)
		for _, w := range wrongWaves() {
			wantDelay(t, w, waveOf(0.5, 0), cell, 0, impl.ErrInvalid)
			wantDelay(t, eight, w, cell, 0, impl.ErrInvalid)
		}
	}
	for _, w := range wrongWaves() {
		wantDelay(t, w, waveOf(0.5, 0), 0, 0, impl.ErrInvalid)
		wantDelay(t, eight, w, 0, 0, impl.ErrInvalid)
	}
	wantDelay(t, eight, waveOf(impl.MaxSize, 0), 0, 0, impl.OK)
	wantDelay(t, eight, waveOf(impl.MaxSize, 0), 1, 0, impl.ErrState)
	wantDelay(t, eight, waveOf(impl.MaxSize, 0), impl.MaxCells-1, 0, impl.ErrState)
}

func wantCellsUntil(t *testing.T, edge, factor impl.Wave, small float32, want, wantedCode int64) {
	t.Helper()
	n, code := impl.CellsUntil(edge, factor, small)
	wantCount(t, fmt.Sprint("CellsUntil ", edge, factor, " ", small), n, code, want, wantedCode)
}

func TestCellsUntil(t *testing.T) {
	eight, half := waveOf(8, 0), waveOf(0.5, 0)
	for _, c := range []struct {
		edge, factor impl.Wave
		small        float32
		want         int64
	}{
		{eight, half, 2, 2},
		{eight, half, justBelow(2), 3},
		{eight, half, justAbove(2), 2},
		{eight, half, 8, 0},
		{eight, half, justBelow(8), 1},
		{eight, half, impl.MaxSize, 0},
		{waveOf(0, -8), waveOf(0, 0.5), 2, 2},
		{waveOf(3, 4), half, 5, 0},
		{waveOf(3, 4), half, justBelow(5), 1},
		{eight, half, float32(math.Ldexp(8, -59)), 59},
		// The square of a small wave is 0, and so is its size.
		{eight, waveOf(1.0/8, 0), 0, 26},
		{eight, waveOf(1.0/8, 0), negativeZero, 26},
		{eight, waveOf(1.0/8, 0), least, 26},
		{0, half, 0, 0},
		{0, half, negativeZero, 0},
		{waveOf(least, -least), half, 0, 0},
		{eight, 0, 0, 1},
		// Waves behind the one that is small are not looked at.
		{eight, waveOf(impl.MaxSize, 0), 8, 0},
		{waveOf(1.0/impl.MaxSize, 0), waveOf(impl.MaxSize, impl.MaxSize), 1.0 / 1048576, 0},
	} {
		wantCellsUntil(t, c.edge, c.factor, c.small, c.want, impl.OK)
	}
	// There is none less than MaxCells.
	for _, small := range []float32{justBelow(8), 0, negativeZero, -least, -1, -impl.MaxSize} {
		wantCellsUntil(t, eight, waveOf(1, 0), small, 0, impl.ErrNotFound)
		wantCellsUntil(t, eight, waveOf(impl.MaxSize, 0), small, 0, impl.ErrState)
	}
	wantCellsUntil(t, eight, half, justBelow(float32(math.Ldexp(8, -59))), 0, impl.ErrNotFound)
	wantCellsUntil(t, 0, half, -least, 0, impl.ErrNotFound)
	// The wave of the last cell is looked at, and no one behind it.
	double := waveOf(2, 0)
	wantCellsUntil(t, waveOf(float32(math.Exp2(-39)), 0), double, 0, 0, impl.ErrNotFound)
	wantCellsUntil(t, waveOf(justAbove(float32(math.Exp2(-39))), 0), double, 0, 0, impl.ErrState)
	wantCellsUntil(t, waveOf(float32(math.Exp2(-38)), 0), double, 0, 0, impl.ErrState)
	for _, w := range wrongWaves() {
		wantCellsUntil(t, w, half, 2, 0, impl.ErrInvalid)
		wantCellsUntil(t, eight, w, 8, 0, impl.ErrInvalid)
		wantCellsUntil(t, w, w, notANumber, 0, impl.ErrInvalid)
	}
	for _, small := range notPlain {
		wantCellsUntil(t, eight, half, small, 0, impl.ErrInvalid)
		wantCellsUntil(t, 0, waveOf(impl.MaxSize, 0), small, 0, impl.ErrInvalid)
	}
}

func TestInlandOfMany(t *testing.T) {
	inland, delays, untils := map[int64]int{}, map[int64]int{}, map[int64]int{}
	r := rand.New(rand.NewSource(83))
	for range 5000 {
		edge, factor := randomWave(r), turningWave(r, 1.3*r.Float64())
		if r.Intn(4) == 0 {
			factor = randomWave(r)
		}
		cells := int64(r.Intn(impl.MaxCells + 1))
		waves, code := inlandOf(edge, factor, cells)
		wantInland(t, edge, factor, cells, waves, code)
		inland[code]++
		if cells < impl.MaxCells {
			delay, code := delayOf(edge, factor, cells)
			wantDelay(t, edge, factor, cells, delay, code)
			delays[code]++
		}
		small := float32(math.Exp2(24*r.Float64() - 20))
		if len(waves) > 0 {
			small = []float32{small, waveSizeOf(waves[len(waves)-1]), justBelow(waveSizeOf(waves[0]))}[r.Intn(3)]
		}
		if small > impl.MaxSize {
			continue
		}
		n, code := cellsUntilOf(edge, factor, small)
		wantCellsUntil(t, edge, factor, small, n, code)
		untils[code]++
	}
	wantAllCodes(t, "WavesInland", inland, 500, impl.OK, impl.ErrState)
	wantAllCodes(t, "DelayInland", delays, 500, impl.OK, impl.ErrState)
	wantAllCodes(t, "CellsUntil", untils, 500, impl.OK, impl.ErrState, impl.ErrNotFound)
}
