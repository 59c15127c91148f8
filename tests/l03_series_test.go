package tests

import (
	"math"
	"math/rand"
	"testing"

	"loop.example/g01288/impl"
)

// notRanged are numbers of which no series tells.
var notRanged = []float32{-1, -least, -tinyNumber, infinite, -infinite, notANumber, math.MaxFloat32, -math.MaxFloat32}

// between returns numbers from low to high, both and those next to them among them, evenly spread over their powers.
func between(low, high float32, count int) []float32 {
	list := []float32{low, justAbove(low), justBelow(high), high}
	r := rand.New(rand.NewSource(5))
	way := math.Log2(float64(high)) - math.Log2(float64(low))
	for range count {
		a := float32(math.Exp2(math.Log2(float64(low)) + way*r.Float64()))
		if a >= low && a <= high {
			list = append(list, a)
		}
	}
	return list
}

func TestLnOf(t *testing.T) {
	const ln2 float32 = 0.6931472
	ln, code := impl.LnOf(1)
	wantResult(t, "LnOf 1", ln, code, 0, impl.OK)
	ln, code = impl.LnOf(8)
	wantResult(t, "LnOf 8", ln, code, 3*ln2, impl.OK)
	for e := -60; e <= 60; e++ {
		ln, code = impl.LnOf(float32(math.Exp2(float64(e))))
		wantResult(t, "LnOf a power of 2", ln, code, times(float32(e), ln2), impl.OK)
	}
	edges := []float32{1, 2, 4, 8}
	for _, a := range []float32{0.375, 0.75, 1, 1.5, 3, 6} {
		edges = append(edges, justBelow(a), a, justAbove(a))
	}
	for _, x := range append(edges, between(tinyNumber, 1/tinyNumber, 20000)...) {
		ln, code := impl.LnOf(x)
		wantResult(t, "LnOf "+impl.NumberText(x), ln, code, lnOf(x), impl.OK)
		if math.Abs(float64(ln)-math.Log(float64(x))) > 4e-6 {
			t.Errorf("LnOf %v is %v", x, ln)
		}
	}
}

func TestLnOfNoRange(t *testing.T) {
	for _, x := range append([]float32{0, negativeZero, least, justBelow(tinyNumber), justAbove(1 / tinyNumber)}, notRanged...) {
		ln, code := impl.LnOf(x)
		wantResult(t, "LnOf "+impl.NumberText(x), ln, code, 0, impl.ErrRange)
	}
}

func TestExpDown(t *testing.T) {
	for _, u := range []float32{0, negativeZero, least, tinyNumber, 1e-30} {
		exp, code := impl.ExpDown(u)
		wantResult(t, "ExpDown "+impl.NumberText(u), exp, code, 1, impl.OK)
	}
	for _, u := range append([]float32{1, 2, 79, 80, justBelow(80), 256.0 / 5}, between(1e-6, 80, 20000)...) {
		exp, code := impl.ExpDown(u)
		wantResult(t, "ExpDown "+impl.NumberText(u), exp, code, expOf(u), impl.OK)
		if u <= 10 && math.Abs(float64(exp)*math.Exp(float64(u))-1) > 1e-4 {
			t.Errorf("ExpDown %v is %v", u, exp)
		}
	}
	for _, u := range append([]float32{justAbove(80), 81}, notRanged...) {
		exp, code := impl.ExpDown(u)
		wantResult(t, "ExpDown "+impl.NumberText(u), exp, code, 0, impl.ErrRange)
	}
}

func TestWellFunction(t *testing.T) {
	edges := []float32{justBelow(1), 1, justAbove(1), 0.5, 2, 80, justBelow(80)}
	for _, u := range append(edges, between(tinyNumber, 80, 20000)...) {
		value, code := impl.WellFunction(u)
		wantResult(t, "WellFunction "+impl.NumberText(u), value, code, wellOf(u), impl.OK)
		if !(value > 0) {
			t.Errorf("WellFunction %v is %v", u, value)
		}
	}
	for _, u := range append(between(1, 80, 5000), between(0.25, 4, 5000)...) {
		value, code := impl.WellFunction(u)
		wantResult(t, "WellFunction "+impl.NumberText(u), value, code, wellOf(u), impl.OK)
	}
	for _, u := range append([]float32{0, negativeZero, least, justBelow(tinyNumber), justAbove(80), 81}, notRanged...) {
		value, code := impl.WellFunction(u)
		wantResult(t, "WellFunction "+impl.NumberText(u), value, code, 0, impl.ErrRange)
	}
}

func TestWellFunctionIsNear(t *testing.T) {
	// The values of tables; the series has an error of 1/4320 at 1.
	for _, c := range []struct {
		u     float32
		value float64
	}{
		{1e-10, 22.4486}, {1e-5, 10.93572}, {0.01, 4.037930}, {0.1, 1.822924}, {0.5, 0.559774},
		{1, 0.219384}, {1.5, 0.100020}, {2, 0.0489005}, {5, 0.001148296}, {8, 3.7666e-5},
	} {
		value, code := impl.WellFunction(c.u)
		if code != impl.OK || math.Abs(float64(value)/c.value-1) > 0.0012 {
			t.Errorf("WellFunction %v is %v, code %d, and not near %v", c.u, value, code, c.value)
		}
	}
	before, _ := impl.WellFunction(1)
	behind, _ := impl.WellFunction(justAbove(1))
	if !(before > behind) {
		t.Errorf("at 1 the series has %v, and the fraction behind it %v", before, behind)
	}
}
