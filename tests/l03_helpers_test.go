package tests

import (
	"math"
	"math/rand"
	"slices"
	"testing"

	"loop.example/g01288/impl"
)

const tinyNumber = 1.0 / (1 << 60)

// wrongPlaces are numbers that are none of a place at which wells may be.
var wrongPlaces = []int64{-101, 101, -128, 128, 256, -256, 1 << 32, math.MaxInt64, math.MinInt64}

// wrongMoments are numbers that are no times.
var wrongMoments = []int64{0, -1, impl.MaxMoment + 1, 1<<32 + 1, 1 << 40, math.MaxInt64, math.MinInt64}

// wrongTwices are numbers that are none of a wall or a river.
var wrongTwices = []int64{-401, 401, 512, 1 << 32, math.MaxInt64, math.MinInt64}

// someAquifers are valid aquifers, with all those at the edges.
var someAquifers = []impl.Aquifer{
	{Transmit: 1, Store: 0.5},
	{Transmit: 0.1, Store: 0.001},
	{Transmit: 1.0 / 1024, Store: 1.0 / 1048576},
	{Transmit: 1.0 / 1024, Store: 1},
	{Transmit: impl.MaxSize, Store: 1.0 / 1048576},
	{Transmit: impl.MaxSize, Store: 1},
}

// wrongAquifers returns aquifers that are not valid, each in one way.
func wrongAquifers() []impl.Aquifer {
	list := []impl.Aquifer{{}}
	always := []float32{0, negativeZero, -1, least, notANumber, infinite, -infinite, math.MaxFloat32, -math.MaxFloat32}
	for _, a := range append([]float32{justBelow(1.0 / 1024), justAbove(impl.MaxSize)}, always...) {
		list = append(list, impl.Aquifer{Transmit: a, Store: 0.5})
	}
	for _, a := range append([]float32{justBelow(1.0 / 1048576), justAbove(1)}, always...) {
		list = append(list, impl.Aquifer{Transmit: 1, Store: a})
	}
	return list
}

// wrongWells returns wells that are not valid, each in one way.
func wrongWells() []impl.Well {
	var list []impl.Well
	for _, n := range []int8{-101, 101, -128, 127} {
		list = append(list, impl.Well{X: n, Rate: 1}, impl.Well{Y: n, Rate: 1})
	}
	for _, a := range notPlain {
		list = append(list, impl.Well{Rate: a})
	}
	return list
}

// randomAquifer returns a valid aquifer, often one at an edge.
func randomAquifer(r *rand.Rand) impl.Aquifer {
	if r.Intn(5) == 0 {
		return someAquifers[r.Intn(len(someAquifers))]
	}
	return impl.Aquifer{
		Transmit: float32(math.Exp2(30*r.Float64() - 10)),
		Store:    float32(math.Exp2(-20 * r.Float64())),
	}
}

// randomPlace returns a part of a place, often a small one or one at an edge.
func randomPlace(r *rand.Rand) int64 {
	switch r.Intn(5) {
	case 0:
		return int64(r.Intn(2*impl.MaxPlace+1)) - impl.MaxPlace
	case 1:
		return []int64{impl.MaxPlace, -impl.MaxPlace, 0}[r.Intn(3)]
	}
	return int64(r.Intn(13)) - 4
}

// randomMoment returns a time, often one at an edge.
func randomMoment(r *rand.Rand) int64 {
	if r.Intn(6) == 0 {
		return []int64{1, 2, impl.MaxMoment}[r.Intn(3)]
	}
	return 1 + int64(math.Pow(impl.MaxMoment-1, r.Float64()))
}

// randomWell returns a valid well; its rate is often one at an edge.
func randomWell(r *rand.Rand) impl.Well {
	rate := float32(100*r.Float64() - 30)
	if r.Intn(3) == 0 {
		rate = randomPlain(r)
	}
	return impl.Well{X: int8(randomPlace(r)), Y: int8(randomPlace(r)), Rate: rate}
}

func randomWells(r *rand.Rand, count int) []impl.Well {
	wells := make([]impl.Well, count)
	for i := range wells {
		wells[i] = randomWell(r)
	}
	return wells
}

// lnOf, expOf, wellOf, argumentOf and drawdownOf are written down step by step from chapter 3.
func lnOf(x float32) float32 {
	m, e := x, 0
	for m >= 1.5 {
		m, e = divided(m, 2), e+1
	}
	for m < 0.75 {
		m, e = times(m, 2), e-1
	}
	t := divided(minus(m, 1), plus(m, 1))
	q := times(t, t)
	p := plus(times(q, divided(1, 7)), divided(1, 5))
	p = plus(times(p, q), divided(1, 3))
	p = plus(times(p, q), 1)
	return plus(times(float32(e), 0.6931472), times(2, times(t, p)))
}

func expOf(u float32) float32 {
	v := divided(u, 256)
	p := plus(times(v, divided(1, 6)), divided(1, 2))
	p = plus(times(p, v), 1)
	p = plus(times(p, v), 1)
	for range 8 {
		p = times(p, p)
	}
	return divided(1, p)
}

func wellOf(u float32) float32 {
	if u <= 1 {
		h := minus(times(u, divided(1, 600)), divided(1, 96))
		h = plus(times(h, u), divided(1, 18))
		h = minus(times(h, u), divided(1, 4))
		h = plus(times(h, u), 1)
		return plus(minus(minus(0, 0.5772157), lnOf(u)), times(h, u))
	}
	f := u
	for k := 8; k >= 1; k-- {
		f = plus(u, divided(float32(k), plus(1, divided(float32(k), f))))
	}
	return divided(expOf(u), f)
}

func argumentOf(a impl.Aquifer, w impl.Well, x, y, time int64) float32 {
	across, along := x-int64(w.X), y-int64(w.Y)
	d := float32(across*across + along*along)
	if d == 0 {
		d = divided(1, 16)
	}
	u := divided(times(d, a.Store), times(times(4, a.Transmit), float32(time)))
	if u < tinyNumber {
		return tinyNumber
	}
	return u
}

func drawdownOf(a impl.Aquifer, w impl.Well, x, y, time int64) float32 {
	u := argumentOf(a, w, x, y, time)
	if u > 80 {
		return 0
	}
	return times(divided(w.Rate, times(times(4, 3.1415927), a.Transmit)), wellOf(u))
}

// sumOf adds the drawdowns of wells from left to right, and begins with the first one.
func sumOf(a impl.Aquifer, wells []impl.Well, x, y, time int64) float32 {
	if len(wells) == 0 {
		return 0
	}
	sum := drawdownOf(a, wells[0], x, y, time)
	for _, w := range wells[1:] {
		sum = plus(sum, drawdownOf(a, w, x, y, time))
	}
	return sum
}

func sameWell(a, b impl.Well) bool {
	return a.X == b.X && a.Y == b.Y && sameBits(a.Rate, b.Rate)
}

func wantWell(t *testing.T, name string, got impl.Well, code int64, want impl.Well, wantedCode int64) {
	t.Helper()
	wantCode(t, name, code, wantedCode)
	if !sameWell(got, want) {
		t.Errorf("%s: %v, want %v", name, got, want)
	}
}

func wantWells(t *testing.T, name string, got []impl.Well, code int64, want []impl.Well, wantedCode int64) {
	t.Helper()
	wantCode(t, name, code, wantedCode)
	if !slices.EqualFunc(got, want, sameWell) {
		t.Errorf("%s: %v, want %v", name, got, want)
	}
}

func wantNumbers(t *testing.T, name string, got []float32, code int64, want []float32, wantedCode int64) {
	t.Helper()
	wantCode(t, name, code, wantedCode)
	if !slices.EqualFunc(got, want, sameBits) {
		t.Errorf("%s: %v, want %v", name, got, want)
	}
}

// wantCount checks a whole number that is returned with a code.
func wantCount(t *testing.T, name string, got, code, want, wantedCode int64) {
	t.Helper()
	wantCode(t, name, code, wantedCode)
	if got != want {
		t.Errorf("%s: %d, want %d", name, got, want)
	}
}
