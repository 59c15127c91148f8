package tests

import (
	"fmt"
	"math"
	"math/rand"
	"slices"
	"testing"

	"loop.example/g01288/impl"
)

func TestLoggerOf(t *testing.T) {
	for _, c := range []struct {
		level float32
		want  int16
	}{
		{0, 0}, {negativeZero, 0}, {notANumber, 0}, {oddNumbers[len(oddNumbers)-1], 0},
		{least, 0}, {-least, 0}, {1e-38, 0}, {-1e-38, 0},
		{1, 16}, {-1, -16}, {0.0625, 1}, {-0.0625, -1}, {2.5, 40}, {-2.5, -40}, {100.25, 1604}, {0.1, 2}, {-0.1, -2},
		// Halves of a sixteenth go away from 0.
		{1.0 / 32, 1}, {-1.0 / 32, -1}, {3.0 / 32, 2}, {-3.0 / 32, -2}, {5.0 / 32, 3}, {-5.0 / 32, -3},
		{1 + 1.0/32, 17}, {-1 - 1.0/32, -17}, {1000 + 1.0/32, 16001}, {-1000 - 1.0/32, -16001},
		// A little less than a half of a sixteenth: the narrow sum with a half is 1 nevertheless, but not further away from 1.
		{justBelow(1.0 / 32), 1}, {justAbove(-1.0 / 32), -1}, {justBelow(justBelow(1.0 / 32)), 0}, {justAbove(justAbove(-1.0 / 32)), 0},
		{justBelow(3.0 / 32), 1}, {justAbove(-3.0 / 32), -1}, {justAbove(1.0 / 32), 1}, {justBelow(-1.0 / 32), -1},
		// Both ends of what a logger has.
		{2047.875, 32766}, {justBelow(2047.90625), 32766}, {2047.90625, 32767}, {2047.9375, 32767}, {2047.96875, 32767}, {2048, 32767}, {justAbove(2048), 32767},
		{-2047.9375, -32767}, {justAbove(-2047.96875), -32767}, {-2047.96875, -32768}, {-2048, -32768}, {justBelow(-2048), -32768}, {-2048.03125, -32768},
		{5000, 32767}, {-5000, -32768}, {1e9, 32767}, {-1e9, -32768}, {4096, 32767}, {-4096, -32768}, {268435456, 32767}, {-268435456, -32768},
		{impl.MaxSize, 32767}, {-impl.MaxSize, -32768}, {1e20, 32767}, {-1e20, -32768},
		{math.MaxFloat32, 32767}, {-math.MaxFloat32, -32768}, {math.MaxFloat32 / 16, 32767}, {infinite, 32767}, {-infinite, -32768},
	} {
		if got := impl.LoggerOf(c.level); got != c.want {
			t.Errorf("LoggerOf %v: %d, want %d", c.level, got, c.want)
		}
	}
}

func TestLoggerOfMany(t *testing.T) {
	r := rand.New(rand.NewSource(40))
	for i := range 300000 {
		level := math.Float32frombits(r.Uint32())
		if i%2 == 0 {
			level = float32(4400*r.Float64() - 2200)
		}
		if got := impl.LoggerOf(level); got != loggerOf(level) {
			t.Errorf("LoggerOf %v: %d, want %d", level, got, loggerOf(level))
		}
	}
	for step := -70000; step <= 70000; step++ {
		// All sixteenths, and all halves between them.
		half := float32(step) / 32
		for _, level := range []float32{half, justAbove(half), justBelow(half)} {
			if got := impl.LoggerOf(level); got != loggerOf(level) {
				t.Errorf("LoggerOf %v: %d, want %d", level, got, loggerOf(level))
			}
		}
	}
}

func TestLevelOf(t *testing.T) {
	for level := math.MinInt16; level <= math.MaxInt16; level++ {
		for _, time := range []int64{1, 0, math.MinInt64} {
			r := impl.Reading{Time: time, Level: int16(level)}
			wantNumber(t, fmt.Sprint("LevelOf ", r), impl.LevelOf(r), float32(level)/16)
		}
		if got := impl.LoggerOf(impl.LevelOf(impl.Reading{Level: int16(level)})); got != int16(level) {
			t.Errorf("a logger has %d of the level of %d", got, level)
		}
	}
}

func TestValidReadings(t *testing.T) {
	for _, list := range [][]impl.Reading{
		nil, {}, readingsAt(1, 0), readingsAt(impl.MaxMoment, 0), readingsAt(1, -32768, 2, 32767), readingsAt(1, 3, 2, 3, 3, 3),
		readingsAt(1, 5, impl.MaxMoment, 4), readingsAt(impl.MaxMoment-1, 0, impl.MaxMoment, 0),
		manyReadings(impl.MaxReadings), manyReadings(impl.MaxReadings - 1),
	} {
		if !impl.ValidReadings(list) {
			t.Errorf("%v are valid", list)
		}
	}
	for _, list := range append(wrongReadings(), manyReadings(42), make([]impl.Reading, 1000000)) {
		if impl.ValidReadings(list) {
			t.Errorf("%v are not valid", list[:min(len(list), 50)])
		}
	}
}

func TestSameReadings(t *testing.T) {
	lists := [][]impl.Reading{
		{}, readingsAt(1, 2), readingsAt(2, 1), readingsAt(1, 3), readingsAt(2, 2), readingsAt(1, 2, 1, 2), readingsAt(1, 2, 3, 4),
		readingsAt(3, 4, 1, 2), readingsAt(1, -2), readingsAt(-1, 2), readingsAt(0, 0), readingsAt(1<<32+1, 2), readingsAt(math.MaxInt64, -32768),
		manyReadings(41), manyReadings(60),
	}
	for i, a := range lists {
		for j, b := range lists {
			if impl.SameReadings(a, slices.Clone(b)) != (i == j) {
				t.Errorf("SameReadings %v %v: %v", a, b, i != j)
			}
		}
	}
	if !impl.SameReadings(nil, []impl.Reading{}) || !impl.SameReadings([]impl.Reading{}, nil) || !impl.SameReadings(nil, nil) {
		t.Error("no readings and no readings are the same")
	}
}

func TestValidSite(t *testing.T) {
	for n := -128; n <= 127; n++ {
		valid := n >= -100 && n <= 100
		for _, s := range []impl.Site{{X: int8(n)}, {Y: int8(n)}, {Well: impl.Well{X: int8(n)}}, {Well: impl.Well{Y: int8(n)}}} {
			if impl.ValidSite(s) != valid {
				t.Errorf("valid is %v: %v", !valid, s)
			}
		}
	}
	for _, rate := range []float32{0, negativeZero, least, -5, impl.MaxSize, -impl.MaxSize} {
		if s := (impl.Site{Well: impl.Well{X: 1, Y: 2, Rate: rate}, X: -100, Y: 100}); !impl.ValidSite(s) {
			t.Errorf("%v is valid", s)
		}
	}
	for _, s := range wrongSites() {
		if impl.ValidSite(s) {
			t.Errorf("%v is not valid", s)
		}
	}
}

func TestReadingsFrom(t *testing.T) {
	r := rand.New(rand.NewSource(41))
	beyond, between := 0, 0
	for i := range 2000 {
		a, s, times := randomAquifer(r), randomSite(r), randomTimes(r, i%(impl.MaxReadings+1))
		if i%2 == 0 {
			s.Well.Rate = float32(1000*r.Float64() - 500)
		}
		var want []impl.Reading
		for _, time := range times {
			level := loggerOf(siteOf(a, s, time))
			want = append(want, impl.Reading{Time: time, Level: level})
			if level == math.MaxInt16 || level == math.MinInt16 {
				beyond++
			} else if level != 0 {
				between++
			}
		}
		list, code := impl.ReadingsFrom(a, s, times)
		wantReadings(t, fmt.Sprint("ReadingsFrom ", a, s), list, code, want, impl.OK)
		if !impl.ValidReadings(list) {
			t.Errorf("%v are not valid", list)
		}
	}
	if min(beyond, between) < 1000 {
		t.Errorf("only %d levels are those at an end, and %d those between", beyond, between)
	}
}

func TestReadingsFromTimes(t *testing.T) {
	for _, none := range [][]int64{nil, {}} {
		list, code := impl.ReadingsFrom(unitAquifer, unitSite, none)
		wantReadings(t, "ReadingsFrom at no times", list, code, nil, impl.OK)
	}
	all := make([]int64, 1000000)
	for i := range all {
		all[i] = int64(i + 1)
	}
	list, code := impl.ReadingsFrom(unitAquifer, unitSite, all[:impl.MaxReadings])
	if code != impl.OK || len(list) != impl.MaxReadings {
		t.Errorf("%d readings, code %d", len(list), code)
	}
	for _, count := range []int{impl.MaxReadings + 1, 50, len(all)} {
		list, code = impl.ReadingsFrom(unitAquifer, unitSite, all[:count])
		wantReadings(t, fmt.Sprint("ReadingsFrom at ", count, " times"), list, code, nil, impl.ErrRange)
	}
	for _, times := range wrongTimes() {
		list, code = impl.ReadingsFrom(unitAquifer, unitSite, times)
		wantReadings(t, fmt.Sprint("ReadingsFrom at the times ", times), list, code, nil, impl.ErrRange)
	}
	// Beyond the argument 80 the drawdown is 0, and a well without a rate has -0 at most.
	far := impl.Site{Well: impl.Well{X: -100, Rate: 1e6}, X: 100}
	list, code = impl.ReadingsFrom(impl.Aquifer{Transmit: 1.0 / 1024, Store: 1}, far, []int64{1, 2})
	wantReadings(t, "ReadingsFrom far away", list, code, readingsAt(1, 0, 2, 0), impl.OK)
	list, code = impl.ReadingsFrom(unitAquifer, impl.Site{Well: impl.Well{Rate: negativeZero}}, []int64{7, impl.MaxMoment})
	wantReadings(t, "ReadingsFrom no rate", list, code, readingsAt(7, 0, impl.MaxMoment, 0), impl.OK)
	ends := impl.Aquifer{Transmit: 1.0 / 1024, Store: 0.001}
	list, code = impl.ReadingsFrom(ends, impl.Site{Well: impl.Well{Rate: impl.MaxSize}}, []int64{1})
	wantReadings(t, "ReadingsFrom a great rate", list, code, readingsAt(1, 32767), impl.OK)
	list, code = impl.ReadingsFrom(ends, impl.Site{Well: impl.Well{Rate: -impl.MaxSize}}, []int64{1})
	wantReadings(t, "ReadingsFrom a great gain", list, code, readingsAt(1, -32768), impl.OK)
}
