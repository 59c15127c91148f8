package tests

import (
	"fmt"
	"math"
	"math/rand"
	"slices"
	"testing"

	"loop.example/g01288/impl"
)

var unitAquifer = impl.Aquifer{Transmit: 1, Store: 0.5}

func TestDrawdownsAt(t *testing.T) {
	r := rand.New(rand.NewSource(9))
	for i := range 1000 {
		a, wells := randomAquifer(r), randomWells(r, i%(impl.MaxWells+1))
		x, y, time := randomPlace(r), randomPlace(r), randomMoment(r)
		want := make([]float32, len(wells))
		for i, w := range wells {
			want[i] = drawdownOf(a, w, x, y, time)
		}
		list, code := impl.DrawdownsAt(a, wells, x, y, time)
		wantNumbers(t, fmt.Sprint("DrawdownsAt ", a, wells, x, y, time), list, code, want, impl.OK)
	}
	for _, none := range [][]impl.Well{nil, {}} {
		list, code := impl.DrawdownsAt(unitAquifer, none, 0, 0, 1)
		wantNumbers(t, "DrawdownsAt without wells", list, code, nil, impl.OK)
	}
}

func TestSumAt(t *testing.T) {
	r := rand.New(rand.NewSource(10))
	ordered := false
	for i := range 2000 {
		a, wells := randomAquifer(r), randomWells(r, i%(impl.MaxWells+1))
		x, y, time := randomPlace(r), randomPlace(r), randomMoment(r)
		sum, code := impl.SumAt(a, wells, x, y, time)
		want := sumOf(a, wells, x, y, time)
		wantResult(t, fmt.Sprint("SumAt ", a, wells, x, y, time), sum, code, want, impl.OK)
		slices.Reverse(wells)
		ordered = ordered || sumOf(a, wells, x, y, time) != want
	}
	if !ordered {
		t.Error("the wells do not tell one order from the other")
	}
	for _, none := range [][]impl.Well{nil, {}} {
		sum, code := impl.SumAt(unitAquifer, none, 0, 0, 1)
		wantResult(t, "SumAt without wells", sum, code, 0, impl.OK)
	}
	for _, wells := range [][]impl.Well{{{Rate: negativeZero}}, {{Rate: negativeZero}, {X: 1, Rate: negativeZero}}} {
		sum, code := impl.SumAt(unitAquifer, wells, 0, 0, 1)
		wantResult(t, "SumAt of -0 alone", sum, code, negativeZero, impl.OK)
	}
	sum, code := impl.SumAt(unitAquifer, []impl.Well{{Rate: negativeZero}, {}}, 0, 0, 1)
	wantResult(t, "SumAt of -0 and 0", sum, code, 0, impl.OK)
}

func TestFieldAfter(t *testing.T) {
	r := rand.New(rand.NewSource(11))
	for i := range 300 {
		a, wells, time := randomAquifer(r), randomWells(r, i%(impl.MaxWells+1)), randomMoment(r)
		field, code := impl.FieldAfter(a, wells, time)
		wantCode(t, "FieldAfter", code, impl.OK)
		for cell, got := range field {
			x, y := int64(cell%impl.Stride), int64(cell/impl.Stride)
			wantNumber(t, fmt.Sprint("FieldAfter ", a, wells, time, " at ", x, y), got, sumOf(a, wells, x, y, time))
			sum, code := impl.SumAt(a, wells, x, y, time)
			wantResult(t, "SumAt a cell", sum, code, got, impl.OK)
		}
	}
	field, code := impl.FieldAfter(unitAquifer, nil, impl.MaxMoment)
	if code != impl.OK || !sameField(field, impl.Field{}) {
		t.Errorf("FieldAfter without wells: %v, code %d", field, code)
	}
	field, code = impl.FieldAfter(unitAquifer, []impl.Well{{X: 2, Y: 5, Rate: 3}}, 10)
	wantCode(t, "FieldAfter", code, impl.OK)
	for cell, s := range field {
		if cell != 42 && s >= field[42] {
			t.Errorf("the cell %d has %v, and that of the well %v", cell, s, field[42])
		}
	}
}

func TestStrongestWell(t *testing.T) {
	r := rand.New(rand.NewSource(12))
	for i := range 1000 {
		a, wells := randomAquifer(r), randomWells(r, 1+i%impl.MaxWells)
		x, y, time := randomPlace(r), randomPlace(r), randomMoment(r)
		want, greatest := 0, drawdownOf(a, wells[0], x, y, time)
		for i, w := range wells {
			if s := drawdownOf(a, w, x, y, time); math.Abs(float64(s)) > math.Abs(float64(greatest)) {
				want, greatest = i, s
			}
		}
		at, s, code := impl.StrongestWell(a, wells, x, y, time)
		wantResult(t, fmt.Sprint("StrongestWell ", a, wells, x, y, time), s, code, greatest, impl.OK)
		if at != int64(want) {
			t.Errorf("StrongestWell %v %v %d %d %d: %d, want %d", a, wells, x, y, time, at, want)
		}
	}
}

func TestStrongestWellIsTheFirst(t *testing.T) {
	s, _ := impl.DrawdownAt(unitAquifer, impl.Well{X: 1, Rate: 5}, 0, 0, 10)
	for _, c := range []struct {
		name  string
		wells []impl.Well
		at    int64
		want  float32
	}{
		{"one", []impl.Well{{X: 1, Rate: 5}}, 0, s},
		{"equal ones", []impl.Well{{X: 2, Rate: 5}, {X: 1, Rate: 5}, {Y: 1, Rate: 5}}, 1, s},
		{"the opposite behind", []impl.Well{{X: 1, Rate: 5}, {X: -1, Rate: -5}}, 0, s},
		{"the opposite ahead", []impl.Well{{X: 1, Rate: -5}, {X: -1, Rate: 5}}, 0, -s},
		{"the greatest size is of one less than 0", []impl.Well{{X: 1, Rate: 4}, {X: 1, Rate: -5}, {X: 1, Rate: 3}}, 1, -s},
		{"nothing", []impl.Well{{Rate: 0}, {Rate: negativeZero}}, 0, 0},
		{"nothing, less than 0", []impl.Well{{Rate: negativeZero}, {Rate: 0}}, 0, negativeZero},
		{"the least that is something", []impl.Well{{Rate: 0}, {X: 1, Rate: 5}, {Rate: negativeZero}}, 1, s},
	} {
		at, got, code := impl.StrongestWell(unitAquifer, c.wells, 0, 0, 10)
		wantResult(t, "StrongestWell of "+c.name, got, code, c.want, impl.OK)
		if at != c.at {
			t.Errorf("StrongestWell of %s: %d, want %d", c.name, at, c.at)
		}
	}
	for _, none := range [][]impl.Well{nil, {}} {
		at, s, code := impl.StrongestWell(unitAquifer, none, 0, 0, 1)
		wantResult(t, "StrongestWell without wells", s, code, 0, impl.ErrNotFound)
		if at != 0 {
			t.Errorf("StrongestWell without wells: %d", at)
		}
	}
}
