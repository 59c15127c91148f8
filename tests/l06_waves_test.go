package tests

import (
	"fmt"
	"math"
	"math/rand"
	"testing"

	"loop.example/g01288/impl"
)

func TestSameWave(t *testing.T) {
	waves := oddWaves()
	for _, a := range waves {
		for _, b := range waves {
			if got := impl.SameWave(a, b); got != sameWave(a, b) {
				t.Fatalf("SameWave of %v and %v: %v", a, b, got)
			}
		}
	}
	for _, c := range []struct {
		a, b impl.Wave
		want bool
	}{
		{waveOf(0, 0), waveOf(0, 0), true},
		{waveOf(0, 0), waveOf(negativeZero, 0), false},
		{waveOf(0, 0), waveOf(0, negativeZero), false},
		{waveOf(negativeZero, 0), waveOf(0, negativeZero), false},
		{waveOf(negativeZero, negativeZero), waveOf(negativeZero, negativeZero), true},
		{waveOf(notANumber, 1), waveOf(math.Float32frombits(0xffc00001), 1), true},
		{waveOf(1, notANumber), waveOf(1, math.Float32frombits(0x7f800001)), true},
		{waveOf(notANumber, 1), waveOf(1, notANumber), false},
		{waveOf(infinite, 1), waveOf(infinite, 1), true},
		{waveOf(infinite, 1), waveOf(-infinite, 1), false},
		{waveOf(least, 0), waveOf(0, 0), false},
		{waveOf(0, least), waveOf(0, -least), false},
		{waveOf(1, 2), waveOf(2, 1), false},
		{waveOf(1, 2), waveOf(1, justAbove(2)), false},
		{waveOf(1, 2), waveOf(justAbove(1), 2), false},
	} {
		if impl.SameWave(c.a, c.b) != c.want || impl.SameWave(c.b, c.a) != c.want {
			t.Errorf("%v and %v are the same: %v", c.a, c.b, !c.want)
		}
	}
}

func TestValidWave(t *testing.T) {
	for _, x := range []float32{0, negativeZero, least, -least, 1, 1e-40, impl.MaxSize, -impl.MaxSize} {
		for _, y := range []float32{0, negativeZero, least, -1, impl.MaxSize, -impl.MaxSize} {
			if !impl.ValidWave(waveOf(x, y)) || !impl.ValidWave(waveOf(y, x)) {
				t.Errorf("the wave of %v and %v is not valid, or the other way round", x, y)
			}
		}
	}
	for _, w := range wrongWaves() {
		if impl.ValidWave(w) {
			t.Errorf("the wave %v is valid", w)
		}
	}
	for _, w := range oddWaves() {
		if impl.ValidWave(w) != isPlainWave(w) {
			t.Errorf("the wave %v is valid: %v", w, !isPlainWave(w))
		}
	}
}

func TestTimesWave(t *testing.T) {
	wide := 1 + float32(1.0/4096)
	for _, c := range []struct{ a, b, want impl.Wave }{
		{waveOf(0, 1), waveOf(0, 1), waveOf(-1, 0)},
		{waveOf(1, 2), waveOf(3, 5), waveOf(-7, 11)},
		{waveOf(3, 5), waveOf(1, 2), waveOf(-7, 11)},
		{waveOf(2, 0), waveOf(0, 3), waveOf(0, 6)},
		// Each product is rounded ahead of the sum, and so nothing is left: the language's own product would be 2 to the power -24.
		{waveOf(wide, 1+1.0/2048), waveOf(wide, 1), waveOf(0, plus(wide, times(1+1.0/2048, wide)))},
		// The signs of 0 are those of the sums and products.
		{waveOf(0, 0), waveOf(0, 0), waveOf(0, 0)},
		{waveOf(negativeZero, 0), waveOf(1, 0), waveOf(negativeZero, 0)},
		{waveOf(negativeZero, 0), waveOf(1, negativeZero), waveOf(0, 0)},
		{waveOf(0, 0), waveOf(-1, 0), waveOf(negativeZero, 0)},
		{waveOf(0, negativeZero), waveOf(-1, negativeZero), waveOf(negativeZero, 0)},
		{waveOf(0, negativeZero), waveOf(1, negativeZero), waveOf(0, negativeZero)},
		{waveOf(0, negativeZero), waveOf(1, 0), waveOf(0, 0)},
		{waveOf(negativeZero, negativeZero), waveOf(1, 0), waveOf(0, negativeZero)},
		{waveOf(negativeZero, negativeZero), waveOf(1, 1), waveOf(0, negativeZero)},
		{waveOf(1, 1), waveOf(1, 1), waveOf(0, 2)},
		{waveOf(1, 1), waveOf(1, -1), waveOf(2, 0)},
		// Parts that are subnormal, or become so.
		{waveOf(least, 0), waveOf(0.5, 0), waveOf(0, 0)},
		{waveOf(-least, 0), waveOf(0.5, 0), waveOf(negativeZero, 0)},
		{waveOf(3*least, 0), waveOf(0.5, 0.5), waveOf(2*least, 2*least)},
		{waveOf(1e-30, 0), waveOf(1e-30, -1e-30), waveOf(0, 0)},
		{waveOf(1e-30, -1e-30), waveOf(0, 1), waveOf(1e-30, 1e-30)},
		// Parts that are infinite, or not a number.
		{waveOf(math.MaxFloat32, 0), waveOf(2, 0), waveOf(infinite, 0)},
		{waveOf(math.MaxFloat32, math.MaxFloat32), waveOf(2, 2), waveOf(notANumber, infinite)},
		{waveOf(infinite, 0), waveOf(1, 0), waveOf(infinite, notANumber)},
		{waveOf(infinite, 1), waveOf(1, 1), waveOf(infinite, infinite)},
		{waveOf(infinite, infinite), waveOf(1, 1), waveOf(notANumber, infinite)},
		{waveOf(1, notANumber), waveOf(1, 1), waveOf(notANumber, notANumber)},
		{waveOf(0, notANumber), waveOf(0, 0), waveOf(notANumber, notANumber)},
	} {
		wantWave(t, fmt.Sprint("TimesWave of ", c.a, c.b), impl.TimesWave(c.a, c.b), c.want)
	}
}

func TestPlusWave(t *testing.T) {
	for _, c := range []struct{ a, b, want impl.Wave }{
		{waveOf(0, 1), waveOf(0, 1), waveOf(0, 2)},
		{waveOf(1, 2), waveOf(30, 50), waveOf(31, 52)},
		{waveOf(negativeZero, negativeZero), waveOf(negativeZero, negativeZero), waveOf(negativeZero, negativeZero)},
		{waveOf(negativeZero, 0), waveOf(0, negativeZero), waveOf(0, 0)},
		{waveOf(negativeZero, 0), waveOf(negativeZero, negativeZero), waveOf(negativeZero, 0)},
		{waveOf(1, -1), waveOf(-1, 1), waveOf(0, 0)},
		{waveOf(16777216, 16777216), waveOf(1, 3), waveOf(16777216, 16777220)},
		{waveOf(least, -least), waveOf(least, least), waveOf(2*least, 0)},
		{waveOf(math.MaxFloat32, 1), waveOf(math.MaxFloat32, 1), waveOf(infinite, 2)},
		{waveOf(infinite, infinite), waveOf(-infinite, 1), waveOf(notANumber, infinite)},
		{waveOf(1, notANumber), waveOf(1, 1), waveOf(2, notANumber)},
	} {
		wantWave(t, fmt.Sprint("PlusWave of ", c.a, c.b), impl.PlusWave(c.a, c.b), c.want)
		wantWave(t, fmt.Sprint("PlusWave of ", c.b, c.a), impl.PlusWave(c.b, c.a), c.want)
	}
}

func TestSumsAndProductsOfMany(t *testing.T) {
	check := func(a, b impl.Wave) {
		t.Helper()
		sum := waveOf(plus(firstOf(a), firstOf(b)), plus(secondOf(a), secondOf(b)))
		wantWave(t, fmt.Sprint("PlusWave of ", a, b), impl.PlusWave(a, b), sum)
		wantWave(t, fmt.Sprint("TimesWave of ", a, b), impl.TimesWave(a, b), productOf(a, b))
	}
	waves := oddWaves()
	for _, a := range waves {
		for _, b := range waves {
			check(a, b)
		}
	}
	r := rand.New(rand.NewSource(80))
	wide := 0
	for range 50000 {
		a, b := randomWave(r), randomWave(r)
		check(a, b)
		check(waveOf(anyNumber(r), anyNumber(r)), waveOf(anyNumber(r), anyNumber(r)))
		if impl.Wave(complex64(a)*complex64(b)) != impl.TimesWave(a, b) {
			wide++
		}
	}
	if wide < 1000 {
		t.Errorf("only %d products differ from those of the language", wide)
	}
}

func TestTurnOf(t *testing.T) {
	for hour := range int64(100001) {
		turn, code := impl.TurnOf(hour)
		wantWaveResult(t, fmt.Sprint("TurnOf ", hour), turn, code, turnOf(hour), impl.OK)
	}
	for _, hour := range hoursWithoutTurn {
		turn, code := impl.TurnOf(hour)
		wantWaveResult(t, fmt.Sprint("TurnOf ", hour), turn, code, 0, impl.ErrRange)
	}
	for hour, want := range map[int64]impl.Wave{
		0: waveOf(1, 0), 3: waveOf(0, 1), 6: waveOf(-1, 0), 9: waveOf(0, -1), 12: waveOf(1, 0), 15: waveOf(0, 1),
		1: waveOf(0.8660254, 0.5), 2: waveOf(0.5, 0.8660254), 4: waveOf(-0.5, 0.8660254), 5: waveOf(-0.8660254, 0.5),
		7: waveOf(-0.8660254, -0.5), 8: waveOf(-0.5, -0.8660254), 10: waveOf(0.5, -0.8660254), 11: waveOf(0.8660254, -0.5),
		100000: waveOf(-0.5, 0.8660254), 99999: waveOf(0, 1), 99995: waveOf(0.8660254, -0.5),
	} {
		turn, code := impl.TurnOf(hour)
		wantWaveResult(t, fmt.Sprint("TurnOf ", hour), turn, code, want, impl.OK)
	}
}

func wantSize(t *testing.T, w impl.Wave, want float32, wantedCode int64) {
	t.Helper()
	size, code := impl.SizeOfWave(w)
	wantResult(t, fmt.Sprint("SizeOfWave ", w), size, code, want, wantedCode)
}

func TestSizeOfWave(t *testing.T) {
	tiny := float32(math.Exp2(-75))
	for _, c := range []struct {
		wave impl.Wave
		want float32
	}{
		{waveOf(3, 4), 5},
		{waveOf(-3, 4), 5},
		{waveOf(5, -12), 13},
		{waveOf(0, 0), 0},
		{waveOf(negativeZero, negativeZero), 0},
		{waveOf(1, 1), math.Sqrt2},
		{waveOf(0.1, 0), 0.1},
		{waveOf(0, -7), 7},
		// Squares that are subnormal lose bits, or are 0.
		{waveOf(least, least), 0},
		{waveOf(1e-30, -1e-30), 0},
		{waveOf(2*tiny, 0), 2 * tiny},
		{waveOf(tiny, tiny), 0},
		{waveOf(justAbove(tiny), 0), math.Sqrt2 * tiny},
		{waveOf(justAbove(tiny), justAbove(tiny)), 2 * tiny},
		{waveOf(3*tiny, 0), times(tiny, float32(math.Sqrt(8)))},
		// The size need not be plain.
		{waveOf(impl.MaxSize, 0), impl.MaxSize},
		{waveOf(impl.MaxSize, -impl.MaxSize), impl.MaxSize * math.Sqrt2},
		// Each square is rounded ahead of the sum, and this ahead of the root.
		{waveOf(4097, 1), 4097},
		{waveOf(4097, 4096), float32(math.Sqrt(16785408 + 16777216))},
	} {
		wantSize(t, c.wave, c.want, impl.OK)
	}
	for _, w := range wrongWaves() {
		wantSize(t, w, 0, impl.ErrInvalid)
	}
}

func TestSizeOfManyWaves(t *testing.T) {
	r := rand.New(rand.NewSource(81))
	waves := plainOddWaves()
	for range 20000 {
		waves = append(waves, randomWave(r))
	}
	for _, w := range waves {
		wantSize(t, w, waveSizeOf(w), impl.OK)
		// The root lies between the middles to both neighbours of the size, whose squares are exact as wide numbers.
		size, _ := impl.SizeOfWave(w)
		square := float64(plus(times(firstOf(w), firstOf(w)), times(secondOf(w), secondOf(w))))
		low := (float64(size) + float64(justBelow(size))) / 2
		high := (float64(size) + float64(justAbove(size))) / 2
		if size > 0 && !(low*low <= square && square <= high*high) {
			t.Errorf("SizeOfWave %v is not the nearest root of %v: %v", w, square, size)
		}
	}
}

func wantPower(t *testing.T, w impl.Wave, n int64, want impl.Wave, wantedCode int64) {
	t.Helper()
	power, code := impl.PowerOfWave(w, n)
	wantWaveResult(t, fmt.Sprint("PowerOfWave ", w, n), power, code, want, wantedCode)
}

func TestPowerOfWave(t *testing.T) {
	for _, c := range []struct {
		wave impl.Wave
		n    int64
		want impl.Wave
	}{
		{waveOf(0, 1), 0, waveOf(1, 0)},
		{waveOf(0, 1), 1, waveOf(0, 1)},
		{waveOf(0, 1), 2, waveOf(-1, 0)},
		{waveOf(0, 1), 3, waveOf(negativeZero, -1)},
		{waveOf(0, 1), 4, waveOf(1, negativeZero)},
		{waveOf(0, 1), 5, waveOf(0, 1)},
		{waveOf(0, 1), impl.MaxCells, waveOf(1, negativeZero)},
		{waveOf(2, 0), 20, waveOf(impl.MaxSize, 0)},
		{waveOf(-2, 0), 3, waveOf(-8, 0)},
		{waveOf(1, 1), 40, waveOf(impl.MaxSize, 0)},
		{waveOf(0.5, 0), impl.MaxCells, waveOf(float32(math.Exp2(-60)), 0)},
		{waveOf(0, 0), 0, waveOf(1, 0)},
		{waveOf(0, 0), 1, waveOf(0, 0)},
		{waveOf(impl.MaxSize, -impl.MaxSize), 0, waveOf(1, 0)},
		{waveOf(impl.MaxSize, -impl.MaxSize), 1, waveOf(impl.MaxSize, -impl.MaxSize)},
		{waveOf(least, 0), 1, waveOf(least, 0)},
		{waveOf(least, least), 2, waveOf(0, 0)},
		{waveOf(1e-20, 0), 2, waveOf(times(1e-20, 1e-20), 0)},
		{waveOf(1.0/8, 0), 50, waveOf(0, 0)},
		{waveOf(1.0/8, 0), 49, waveOf(float32(math.Exp2(-147)), 0)},
		// The signs of 0 are those of the sums and products, also of the first one.
		{waveOf(negativeZero, 0), 1, waveOf(negativeZero, 0)},
		{waveOf(negativeZero, 5), 1, waveOf(negativeZero, 5)},
		{waveOf(negativeZero, -5), 1, waveOf(0, -5)},
		{waveOf(5, negativeZero), 1, waveOf(5, 0)},
		{waveOf(-5, negativeZero), 1, waveOf(-5, negativeZero)},
		{waveOf(-5, 0), 2, waveOf(25, negativeZero)},
	} {
		wantPower(t, c.wave, c.n, c.want, impl.OK)
	}
	for _, w := range []impl.Wave{0, waveOf(0, 1), waveOf(impl.MaxSize, 0)} {
		for _, n := range wrongWaveCells {
			wantPower(t, w, n, 0, impl.ErrRange)
		}
	}
	for _, w := range wrongWaves() {
		for _, n := range append([]int64{0, 1, impl.MaxCells}, wrongWaveCells...) {
			wantPower(t, w, n, 0, impl.ErrInvalid)
		}
	}
	wantPower(t, waveOf(2, 0), 21, 0, impl.ErrState)
	wantPower(t, waveOf(0, 2), 21, 0, impl.ErrState)
	wantPower(t, waveOf(justAbove(2), 0), 20, 0, impl.ErrState)
	wantPower(t, waveOf(-3, 0), impl.MaxCells, 0, impl.ErrState)
	wantPower(t, waveOf(1000, 0), 9, 0, impl.ErrState)
	wantPower(t, waveOf(impl.MaxSize, impl.MaxSize), impl.MaxCells, 0, impl.ErrState)
}

// A power whose parts become greater than they may be, and then less again by turning, is valid.
func TestPowerThatTurnsBack(t *testing.T) {
	w := waveOf(0.9235, 0.9235)
	for n := range int64(impl.MaxCells + 1) {
		want, wantedCode := powerOf(w, n)
		wantPower(t, w, n, want, wantedCode)
	}
	_, before := impl.PowerOfWave(w, 52)
	_, after := impl.PowerOfWave(w, 53)
	wantCode(t, "a power that is too great", before, impl.ErrState)
	wantCode(t, "a power that has turned", after, impl.OK)
}

func TestPowersOfMany(t *testing.T) {
	codes := map[int64]int{}
	r := rand.New(rand.NewSource(82))
	waves := plainOddWaves()
	for range 2000 {
		waves = append(waves, randomWave(r), turningWave(r, 1+0.4*(r.Float64()-0.5)))
	}
	for _, w := range waves {
		for _, n := range []int64{0, 1, 2, 3, int64(r.Intn(impl.MaxCells)), impl.MaxCells} {
			want, wantedCode := powerOf(w, n)
			wantPower(t, w, n, want, wantedCode)
			codes[wantedCode]++
		}
	}
	wantAllCodes(t, "powers", codes, 1000, impl.OK, impl.ErrState)
}
