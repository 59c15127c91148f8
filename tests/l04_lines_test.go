package tests

import (
	"fmt"
	"math"
	"math/rand"
	"slices"
	"testing"

	"loop.example/g01288/impl"
)

func TestLineThrough(t *testing.T) {
	const ln2 float32 = 0.6931472
	// From the time 1 to the time 2 there is LN2, just so, of which n * sxx - sx * sx makes LN2 * LN2.
	square := times(ln2, ln2)
	level, slope, code := impl.LineThrough(readingsAt(1, 16, 2, 16))
	wantPair(t, "a flat line", level, slope, code, 1, 0, impl.OK)
	level, slope, code = impl.LineThrough(readingsAt(1, 0, 2, 16))
	steep := divided(minus(times(2, ln2), ln2), minus(times(2, square), square))
	wantPair(t, "a line that rises", level, slope, code, divided(minus(1, times(steep, ln2)), 2), steep, impl.OK)
	level, slope, code = impl.LineThrough(readingsAt(1, 0, 2, 0, 3, 0))
	wantPair(t, "a line at 0", level, slope, code, 0, 0, impl.OK)
	// At the time 1 a level less than 0 makes the product -0.
	level, slope, code = impl.LineThrough(readingsAt(1, -16, 2, 0))
	steep = divided(ln2, square)
	wantPair(t, "a line that rises to 0", level, slope, code, divided(minus(-1, times(steep, ln2)), 2), steep, impl.OK)
	for _, list := range [][]impl.Reading{nil, {}, readingsAt(1, 0), readingsAt(1, 5), readingsAt(77, -9), readingsAt(impl.MaxMoment, 32767)} {
		level, slope, code = impl.LineThrough(list)
		wantPair(t, fmt.Sprint("LineThrough ", list), level, slope, code, 0, 0, impl.ErrNotFound)
	}
}

func TestLineThroughMany(t *testing.T) {
	r := rand.New(rand.NewSource(42))
	found, flat := 0, 0
	for i := range 20000 {
		list := randomReadings(r, 2+i%(impl.MaxReadings-1))
		level, slope, code := impl.LineThrough(list)
		wantedLevel, wantedSlope, d := lineThrough(list)
		if d > 0 {
			found++
			wantPair(t, fmt.Sprint("LineThrough ", list), level, slope, code, wantedLevel, wantedSlope, impl.OK)
		} else {
			flat++
			wantPair(t, fmt.Sprint("LineThrough ", list), level, slope, code, 0, 0, impl.ErrState)
		}
	}
	if found < 10000 || flat < 10 {
		t.Errorf("%d lines have been found, %d have not", found, flat)
	}
}

func TestLineThroughCloseTimes(t *testing.T) {
	// So close together d is what has been rounded: 0, less, or more.
	for _, c := range []struct {
		time int64
		sign int
	}{{234, 0}, {324, -1}, {248, 0}, {17804, -1}, {32725, 1}, {65578, 1}, {99999, 1}} {
		list := readingsAt(c.time, -32768, c.time+1, 32767)
		wantedLevel, wantedSlope, d := lineThrough(list)
		wantedCode := int64(impl.OK)
		if (d > 0) != (c.sign > 0) || (d < 0) != (c.sign < 0) {
			t.Fatalf("at the time %d d is %v", c.time, d)
		}
		if c.sign <= 0 {
			wantedLevel, wantedSlope, wantedCode = 0, 0, impl.ErrState
		}
		level, slope, code := impl.LineThrough(list)
		wantPair(t, fmt.Sprint("LineThrough ", list), level, slope, code, wantedLevel, wantedSlope, wantedCode)
	}
}

func TestTransmitOf(t *testing.T) {
	const fourPi = 4 * 3.1415927
	for _, c := range []struct {
		rate, slope float32
		code        int64
	}{
		{100, 1, impl.OK}, {5, 0.1, impl.OK}, {-5, -0.1, impl.OK}, {100, 1000, impl.OK}, {1, 1e-6, impl.OK},
		{impl.MaxSize, 1e6, impl.OK}, {1e-38, 1e-38, impl.OK}, {least, least, impl.OK}, {-least, -least, impl.OK}, {1e-30, 1e-29, impl.OK},
		{5, -0.1, impl.ErrState}, {-5, 0.1, impl.ErrState}, {100, 1e6, impl.ErrState}, {100, 1e-10, impl.ErrState},
		{5, 0, impl.ErrState}, {5, negativeZero, impl.ErrState}, {-5, 0, impl.ErrState}, {-5, negativeZero, impl.ErrState},
		{0, 0, impl.ErrState}, {0, 1, impl.ErrState}, {negativeZero, 1, impl.ErrState}, {0, negativeZero, impl.ErrState},
		{5, notANumber, impl.ErrState}, {5, infinite, impl.ErrState}, {-5, -infinite, impl.ErrState}, {0, infinite, impl.ErrState}, {0, notANumber, impl.ErrState},
		{5, math.MaxFloat32, impl.ErrState}, {5, -math.MaxFloat32, impl.ErrState}, {5, least, impl.ErrState}, {5, -least, impl.ErrState},
	} {
		want := float32(0)
		if c.code == impl.OK {
			want = divided(c.rate, times(fourPi, c.slope))
		}
		transmit, code := impl.TransmitOf(impl.Site{Well: impl.Well{Rate: c.rate}, X: 9}, c.slope)
		wantResult(t, fmt.Sprint("TransmitOf ", c.rate, " ", c.slope), transmit, code, want, c.code)
	}
}

func TestTransmitOfMany(t *testing.T) {
	r := rand.New(rand.NewSource(43))
	found, less, more := 0, 0, 0
	for range 20000 {
		s := randomSite(r)
		slope := float32(math.Exp2(60*r.Float64() - 40))
		if s.Well.Rate < 0 && r.Intn(3) > 0 {
			slope = -slope
		}
		want, wantedCode := divided(s.Well.Rate, times(times(4, 3.1415927), slope)), int64(impl.OK)
		switch {
		case want >= 1.0/1024 && want <= impl.MaxSize:
			found++
		case want > impl.MaxSize:
			more++
			want, wantedCode = 0, impl.ErrState
		default:
			less++
			want, wantedCode = 0, impl.ErrState
		}
		transmit, code := impl.TransmitOf(s, slope)
		wantResult(t, fmt.Sprint("TransmitOf ", s, slope), transmit, code, want, wantedCode)
	}
	if min(found, less, more) < 500 {
		t.Errorf("%d have been found, %d are less, %d are more", found, less, more)
	}
}

func TestTransmitOfAtEdges(t *testing.T) {
	// Near both ends, slopes are looked for whose Transmit is the end, just so, and both its neighbours.
	for _, edge := range []float32{1.0 / 1024, impl.MaxSize} {
		inside, outside, at := 0, 0, 0
		for rate := float32(1); rate < 400; rate++ {
			s := impl.Site{Well: impl.Well{Rate: rate}}
			middle := divided(rate, times(4*3.1415927, edge))
			for _, slope := range []float32{justBelow(justBelow(middle)), justBelow(middle), middle, justAbove(middle), justAbove(justAbove(middle))} {
				want, wantedCode := divided(rate, times(4*3.1415927, slope)), int64(impl.OK)
				if want == edge {
					at++
				}
				if want < 1.0/1024 || want > impl.MaxSize {
					outside++
					want, wantedCode = 0, impl.ErrState
				} else {
					inside++
				}
				transmit, code := impl.TransmitOf(s, slope)
				wantResult(t, fmt.Sprint("TransmitOf ", rate, " ", slope), transmit, code, want, wantedCode)
			}
		}
		if min(inside, outside, at) < 50 {
			t.Errorf("at %v %d are inside, %d outside, and %d the end", edge, inside, outside, at)
		}
	}
}

func TestMedianSlope(t *testing.T) {
	const ln2 float32 = 0.6931472
	perStep := func(levels float32) float32 { return divided(levels, ln2) }
	for _, c := range []struct {
		name string
		list []impl.Reading
		want float32
	}{
		{"one slope", readingsAt(1, 0, 2, 16), perStep(1)},
		{"one slope less than 0", readingsAt(1, 16, 2, 0), perStep(-1)},
		{"one slope of 0", readingsAt(5, -7, 6, -7), 0},
		{"all slopes 0", readingsOf(9, 9, 9, 9, 9), 0},
		{"all slopes 0, of an even number", readingsOf(-9, -9, -9, -9), 0},
		{"slopes that are equal", readingsAt(1, 16, 2, 32, 4, 48), perStep(1)},
		{"three slopes, the middle one", readingsAt(1, 0, 2, 16, 4, 64), divided(4, times(2, ln2))},
		{"two slopes of 0 of three, around them nothing", readingsAt(1, 0, 2, 0, 4, 0), 0},
		{"a slope that goes up, and one that goes down", readingsAt(1, 0, 2, 16, 4, 0), 0},
		{"up and down by as much, of six", readingsAt(1, 0, 2, 16, 4, 0, 8, 16), medianSlope(readingsAt(1, 0, 2, 16, 4, 0, 8, 16))},
		{"from the least level to the greatest one", readingsAt(1, -32768, 2, 32767), perStep(65535.0 / 16)},
		{"from the greatest level to the least one", readingsAt(1, 32767, 2, -32768), perStep(-65535.0 / 16)},
		{"the last times", readingsAt(impl.MaxMoment-1, 0, impl.MaxMoment, 1), divided(0.0625, minus(lnOf(impl.MaxMoment), lnOf(impl.MaxMoment-1)))},
	} {
		slope, code := impl.MedianSlope(c.list)
		wantResult(t, "MedianSlope: "+c.name, slope, code, c.want, impl.OK)
	}
	// The six slopes of these are in steps per LN2 1, 1/2, 4/3, 0, 3/2, 3: in order 0, 1/2, 1, 4/3, 3/2, 3.
	slope, code := impl.MedianSlope(readingsAt(1, 0, 2, 16, 4, 16, 8, 64))
	third := divided(4, minus(lnOf(8), 0))
	wantResult(t, "MedianSlope of six", slope, code, divided(plus(perStep(1), third), 2), impl.OK)
	for _, list := range [][]impl.Reading{nil, {}, readingsAt(1, 0), readingsAt(impl.MaxMoment, -5)} {
		slope, code = impl.MedianSlope(list)
		wantResult(t, fmt.Sprint("MedianSlope ", list), slope, code, 0, impl.ErrNotFound)
	}
}

func TestMedianSlopeOfMany(t *testing.T) {
	r := rand.New(rand.NewSource(44))
	even, odd := 0, 0
	for i := range 4000 {
		list := randomReadings(r, 2+i%(impl.MaxReadings-1))
		if i%3 == 0 {
			for j := range list {
				list[j].Level = int16(r.Intn(3))
			}
		}
		if len(list)*(len(list)-1)/2%2 == 0 {
			even++
		} else {
			odd++
		}
		slope, code := impl.MedianSlope(list)
		wantResult(t, fmt.Sprint("MedianSlope ", list), slope, code, medianSlope(list), impl.OK)
	}
	if min(even, odd) < 1000 {
		t.Errorf("%d have an even number of slopes, %d an odd one", even, odd)
	}
}

// No two times have one logarithm, so that no slope is ever left out of a median.
func TestLogarithmsOfTimesRise(t *testing.T) {
	before, _ := impl.LnOf(1)
	for time := int64(2); time <= impl.MaxMoment; time++ {
		ln, code := impl.LnOf(float32(time))
		if code != impl.OK || !(ln > before) {
			t.Fatalf("the logarithm of %d is %v, of the one before it is %v", time, ln, before)
		}
		before = ln
	}
}

func TestTiesIn(t *testing.T) {
	for _, c := range []struct {
		levels []int16
		want   int64
	}{
		{nil, 0}, {[]int16{3}, 0}, {[]int16{0}, 0}, {[]int16{3, 3}, 1}, {[]int16{3, 4}, 0}, {[]int16{0, 0}, 1}, {[]int16{3, 3, 5}, 1},
		{[]int16{3, 5, 3}, 0}, {[]int16{3, 3, 3}, 2}, {[]int16{5, 3, 3}, 1}, {[]int16{3, 3, 5, 5}, 2}, {[]int16{3, 5, 3, 5}, 0},
		{[]int16{-32768, 32767, 32767, -32768, -32768}, 2}, {[]int16{-1, 1, 1, -1}, 1}, {make([]int16, impl.MaxReadings), impl.MaxReadings - 1},
	} {
		ties, code := impl.TiesIn(readingsOf(c.levels...))
		wantCount(t, fmt.Sprint("TiesIn ", c.levels), ties, code, c.want, impl.OK)
	}
	// The times of those that tie need not be close together.
	ties, code := impl.TiesIn(readingsAt(1, 7, 50, 7, 90000, 7))
	wantCount(t, "TiesIn", ties, code, 2, impl.OK)
}

func TestSmoothedReadings(t *testing.T) {
	for _, c := range []struct{ levels, want []int16 }{
		{nil, nil}, {[]int16{3}, []int16{3}}, {[]int16{3, -9}, []int16{3, -9}},
		{[]int16{3, 9, 5}, []int16{3, 5, 5}}, {[]int16{3, 5, 9}, []int16{3, 5, 9}}, {[]int16{5, 3, 9}, []int16{5, 5, 9}},
		{[]int16{5, 9, 3}, []int16{5, 5, 3}}, {[]int16{9, 3, 5}, []int16{9, 5, 5}}, {[]int16{9, 5, 3}, []int16{9, 5, 3}},
		{[]int16{3, 3, 5}, []int16{3, 3, 5}}, {[]int16{3, 5, 3}, []int16{3, 3, 3}}, {[]int16{5, 3, 3}, []int16{5, 3, 3}}, {[]int16{5, 3, 5}, []int16{5, 5, 5}},
		{[]int16{-32768, 32767, 0}, []int16{-32768, 0, 0}}, {[]int16{32767, -32768, 32767}, []int16{32767, 32767, 32767}}, {[]int16{-3, -9, -5}, []int16{-3, -5, -5}},
		// Of what there was, not of what has been smoothed.
		{[]int16{0, 9, 0, 9, 0}, []int16{0, 0, 9, 0, 0}}, {[]int16{1, 8, 2, 7, 3, 6}, []int16{1, 2, 7, 3, 6, 6}},
	} {
		list, code := impl.SmoothedReadings(readingsOf(c.levels...))
		wantReadings(t, fmt.Sprint("SmoothedReadings ", c.levels), list, code, readingsOf(c.want...), impl.OK)
	}
	list, code := impl.SmoothedReadings(readingsAt(4, 9, 70, -2, 100, 5, impl.MaxMoment, 7))
	wantReadings(t, "SmoothedReadings at other times", list, code, readingsAt(4, 9, 70, 5, 100, 5, impl.MaxMoment, 7), impl.OK)
}

func TestSmoothedReadingsOfMany(t *testing.T) {
	r := rand.New(rand.NewSource(45))
	for i := range 3000 {
		list := randomReadings(r, i%(impl.MaxReadings+1))
		want := slices.Clone(list)
		for j := range want {
			if j > 0 && j < len(want)-1 {
				three := levelsOf(list[j-1 : j+2])
				slices.Sort(three)
				want[j].Level = three[1]
			}
		}
		got, code := impl.SmoothedReadings(list)
		wantReadings(t, fmt.Sprint("SmoothedReadings ", list), got, code, want, impl.OK)
	}
}
