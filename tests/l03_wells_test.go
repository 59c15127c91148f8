package tests

import (
	"fmt"
	"math/rand"
	"slices"
	"testing"

	"loop.example/g01288/impl"
)

func TestValidAquifer(t *testing.T) {
	for _, a := range someAquifers {
		if !impl.ValidAquifer(a) {
			t.Errorf("%v is valid", a)
		}
	}
	for _, a := range wrongAquifers() {
		if impl.ValidAquifer(a) {
			t.Errorf("%v is not valid", a)
		}
	}
}

func TestValidWell(t *testing.T) {
	for _, rate := range []float32{0, negativeZero, least, -least, 5, -5, impl.MaxSize, -impl.MaxSize} {
		for _, place := range []int8{-100, -99, 0, 99, 100} {
			for _, w := range []impl.Well{{X: place, Rate: rate}, {Y: place, Rate: rate}, {X: place, Y: -place, Rate: rate}} {
				if !impl.ValidWell(w) {
					t.Errorf("%v is valid", w)
				}
			}
		}
	}
	for _, w := range wrongWells() {
		if impl.ValidWell(w) {
			t.Errorf("%v is not valid", w)
		}
	}
	for x := -128; x <= 127; x++ {
		w := impl.Well{X: int8(x), Y: 1}
		if impl.ValidWell(w) != (x >= -100 && x <= 100) {
			t.Errorf("valid is %v: %v", w, !impl.ValidWell(w))
		}
		w.X, w.Y = w.Y, w.X
		if impl.ValidWell(w) != (x >= -100 && x <= 100) {
			t.Errorf("valid is %v: %v", w, !impl.ValidWell(w))
		}
	}
}

func TestSameWells(t *testing.T) {
	w := impl.Well{X: 1, Y: 2, Rate: 3}
	lists := [][]impl.Well{
		{}, {w}, {w, w}, {{X: 2, Y: 1, Rate: 3}}, {{X: 1, Y: 3, Rate: 3}}, {{X: 2, Y: 2, Rate: 3}}, {{X: 1, Y: 2, Rate: 4}},
		{{}}, {{Rate: negativeZero}}, {{Rate: notANumber}}, {{Rate: infinite}}, {{Rate: least}}, {{X: -128, Y: 127}},
		{w, {}}, {{}, w}, {w, {Rate: negativeZero}}, {w, w, w}, make([]impl.Well, 20), make([]impl.Well, 21),
	}
	for i, a := range lists {
		for j, b := range lists {
			if impl.SameWells(a, slices.Clone(b)) != (i == j) {
				t.Errorf("SameWells %v %v: %v", a, b, i != j)
			}
		}
	}
	if !impl.SameWells(nil, []impl.Well{}) || !impl.SameWells([]impl.Well{}, nil) || !impl.SameWells(nil, nil) {
		t.Error("no wells and no wells are the same")
	}
	other := oddNumbers[len(oddNumbers)-1]
	if !impl.SameWells([]impl.Well{{Rate: notANumber}}, []impl.Well{{Rate: other}}) {
		t.Error("all that is not a number is the same")
	}
}

func TestArgumentAt(t *testing.T) {
	a := impl.Aquifer{Transmit: 1, Store: 0.5}
	for _, c := range []struct {
		a          impl.Aquifer
		w          impl.Well
		x, y, time int64
		want       float32
	}{
		{a, impl.Well{}, 0, 0, 1, 1.0 / 128},
		{a, impl.Well{X: 100, Y: -100}, 100, -100, 1, 1.0 / 128},
		{a, impl.Well{}, 1, 0, 1, 1.0 / 8},
		{a, impl.Well{}, 3, 4, 1, 25.0 / 8},
		{a, impl.Well{X: 1, Y: 2}, -2, 6, 2, 25.0 / 16},
		{a, impl.Well{X: -100, Y: -100}, 100, 100, 1, 10000},
		{a, impl.Well{}, 1, 0, impl.MaxMoment, divided(0.5, 400000)},
		{impl.Aquifer{Transmit: 1.0 / 1024, Store: 1}, impl.Well{X: -100, Y: 100}, 100, -100, 1, 80000 * 256},
		{impl.Aquifer{Transmit: impl.MaxSize, Store: 1.0 / 1048576}, impl.Well{}, 0, 0, 16383, divided(1.0/16/1048576, times(4*impl.MaxSize, 16383))},
		{impl.Aquifer{Transmit: impl.MaxSize, Store: 1.0 / 1048576}, impl.Well{}, 0, 0, 16384, tinyNumber},
		{impl.Aquifer{Transmit: impl.MaxSize, Store: 1.0 / 1048576}, impl.Well{}, 0, 0, 16385, tinyNumber},
		{impl.Aquifer{Transmit: impl.MaxSize, Store: 1.0 / 1048576}, impl.Well{}, 0, 0, impl.MaxMoment, tinyNumber},
	} {
		u, code := impl.ArgumentAt(c.a, c.w, c.x, c.y, c.time)
		wantResult(t, fmt.Sprint("ArgumentAt ", c), u, code, c.want, impl.OK)
	}
}

func TestArgumentsRound(t *testing.T) {
	r := rand.New(rand.NewSource(6))
	for range 20000 {
		a, w := randomAquifer(r), randomWell(r)
		x, y, time := randomPlace(r), randomPlace(r), randomMoment(r)
		u, code := impl.ArgumentAt(a, w, x, y, time)
		wantResult(t, fmt.Sprint("ArgumentAt ", a, w, x, y, time), u, code, argumentOf(a, w, x, y, time), impl.OK)
	}
}

func TestDrawdownAt(t *testing.T) {
	r := rand.New(rand.NewSource(7))
	far, small, great := 0, 0, 0
	for range 30000 {
		a, w := randomAquifer(r), randomWell(r)
		x, y, time := randomPlace(r), randomPlace(r), randomMoment(r)
		s, code := impl.DrawdownAt(a, w, x, y, time)
		wantResult(t, fmt.Sprint("DrawdownAt ", a, w, x, y, time), s, code, drawdownOf(a, w, x, y, time), impl.OK)
		switch u := argumentOf(a, w, x, y, time); {
		case u > 80:
			far++
		case u > 1:
			great++
		default:
			small++
		}
	}
	if min(far, small, great) < 1000 {
		t.Errorf("only %d arguments beyond 80, %d beyond 1, and %d of 1 at most", far, great, small)
	}
}

func TestDrawdownsAtEdges(t *testing.T) {
	at80 := impl.Aquifer{Transmit: 1.0 / 1024, Store: 1.0 / 16}
	beyond := impl.Aquifer{Transmit: 1.0 / 1024, Store: justAbove(1.0 / 16)}
	w := impl.Well{Rate: impl.MaxSize}
	u, code := impl.ArgumentAt(at80, w, 2, 1, 1)
	wantResult(t, "argument of 80", u, code, 80, impl.OK)
	s, code := impl.DrawdownAt(at80, w, 2, 1, 1)
	wantResult(t, "drawdown at 80", s, code, drawdownOf(at80, w, 2, 1, 1), impl.OK)
	if !(s > 0) {
		t.Errorf("at the argument 80 the drawdown is %v", s)
	}
	u, code = impl.ArgumentAt(beyond, w, 2, 1, 1)
	wantResult(t, "argument just beyond 80", u, code, justAbove(80), impl.OK)
	for _, rate := range []float32{impl.MaxSize, -impl.MaxSize, 0, negativeZero, -5} {
		s, code = impl.DrawdownAt(beyond, impl.Well{Rate: rate}, 2, 1, 1)
		wantResult(t, "drawdown just beyond 80", s, code, 0, impl.OK)
	}
	one := impl.Aquifer{Transmit: 0.25, Store: 1}
	u, code = impl.ArgumentAt(one, w, 0, 1, 1)
	wantResult(t, "argument of 1", u, code, 1, impl.OK)
	s, code = impl.DrawdownAt(one, w, 0, 1, 1)
	wantResult(t, "drawdown at 1", s, code, times(divided(impl.MaxSize, 3.1415927), wellOf(1)), impl.OK)
	for _, rate := range []float32{0, negativeZero} {
		s, code = impl.DrawdownAt(one, impl.Well{Rate: rate}, 3, 0, 10)
		wantResult(t, "drawdown of no rate", s, code, rate, impl.OK)
	}
	for _, rate := range []float32{least, -least, 1e-38} {
		for _, a := range someAquifers {
			s, code = impl.DrawdownAt(a, impl.Well{Rate: rate}, 0, 0, 1)
			wantResult(t, "drawdown of a subnormal rate", s, code, drawdownOf(a, impl.Well{Rate: rate}, 0, 0, 1), impl.OK)
		}
	}
}

func TestDrawdownRoundsEachTime(t *testing.T) {
	// One division by all of it, or the rate times the well function first, would round otherwise.
	r := rand.New(rand.NewSource(8))
	last, first := false, false
	for range 500 {
		a, w := impl.Aquifer{Transmit: float32(0.1 + r.Float64()), Store: 0.01}, impl.Well{Rate: float32(10 * r.Float64())}
		s, code := impl.DrawdownAt(a, w, 1, 0, 10)
		value, spread := wellOf(argumentOf(a, w, 1, 0, 10)), times(times(4, 3.1415927), a.Transmit)
		wantResult(t, "DrawdownAt", s, code, times(divided(w.Rate, spread), value), impl.OK)
		last = last || s != divided(times(w.Rate, value), spread)
		first = first || s != times(w.Rate, divided(value, spread))
	}
	if !last || !first {
		t.Error("the numbers do not tell one order from the other")
	}
}
