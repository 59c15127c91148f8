package tests

import (
	"fmt"
	"math"
	"math/rand"
	"runtime"
	"slices"
	"sync"
	"testing"
	"time"

	"loop.example/g01288/impl"
)

// The example at the end of chapter 3.
func TestWellsExample(t *testing.T) {
	const ln2 float32 = 0.6931472
	a, w := impl.Aquifer{Transmit: 1, Store: 0.5}, impl.Well{Rate: 5}
	ln, code := impl.LnOf(1)
	wantResult(t, "LnOf 1", ln, code, 0, impl.OK)
	ln, code = impl.LnOf(8)
	wantResult(t, "LnOf 8", ln, code, 3*ln2, impl.OK)
	exp, code := impl.ExpDown(0)
	wantResult(t, "ExpDown 0", exp, code, 1, impl.OK)
	wall, code := impl.ImageOf(w, 6, false)
	wantWell(t, "behind a wall", wall, code, impl.Well{X: 6, Rate: 5}, impl.OK)
	river, code := impl.ImageOf(w, 6, true)
	wantWell(t, "behind a river", river, code, impl.Well{X: 6, Rate: -5}, impl.OK)
	u, code := impl.ArgumentAt(a, w, 0, 0, 1)
	wantResult(t, "the argument at its own place", u, code, 1.0/128, impl.OK)
	sum, code := impl.SumAt(a, []impl.Well{w, river}, 3, 0, 1)
	wantResult(t, "the sum at the river", sum, code, 0, impl.OK)
}

// Promise 1: every function returns for all arguments, modifies none, and returns equal results for equal ones.

// anyCall are arguments, valid or not.
type anyCall struct {
	a     [2]float32
	q     impl.Aquifer
	w     impl.Well
	wells []impl.Well
	n     [4]int64
	text  string
}

// wellsOf calls all functions of chapter 3, and returns what they return, as text.
func wellsOf(c anyCall) string {
	out := ""
	add := func(results ...any) { out += textOf(results...) }
	add(impl.LnOf(c.a[0]))
	add(impl.ExpDown(c.a[0]))
	add(impl.WellFunction(c.a[0]))
	add(impl.ValidAquifer(c.q), impl.ValidWell(c.w), impl.SameWells(c.wells, []impl.Well{c.w}), impl.SameWells(c.wells, c.wells))
	add(impl.ArgumentAt(c.q, c.w, c.n[0], c.n[1], c.n[2]))
	add(impl.DrawdownAt(c.q, c.w, c.n[0], c.n[1], c.n[2]))
	add(impl.DrawdownsAt(c.q, c.wells, c.n[0], c.n[1], c.n[2]))
	add(impl.SumAt(c.q, c.wells, c.n[0], c.n[1], c.n[2]))
	add(impl.FieldAfter(c.q, c.wells, c.n[2]))
	add(impl.StrongestWell(c.q, c.wells, c.n[0], c.n[1], c.n[2]))
	add(impl.ImageOf(c.w, c.n[0], c.n[3]%2 == 0))
	add(impl.WithImages(c.wells, c.n[0], c.n[3]%2 == 0))
	add(impl.RecoveryAt(c.q, c.w, c.n[0], c.n[1], c.n[3], c.n[2]))
	add(impl.TimeUntil(c.q, c.w, c.n[0], c.n[1], c.a[1], min(c.n[2], 200)))
	add(impl.RadiusOf(c.q, c.w, c.n[2], c.a[1]))
	add(impl.WellsText(c.wells))
	add(impl.ReadWells(c.text))
	return out
}

// anyWell returns a well that need not be valid.
func anyWell(r *rand.Rand) impl.Well {
	w := randomWell(r)
	switch r.Intn(20) {
	case 0:
		w.X = int8(r.Intn(256) - 128)
	case 1:
		w.Y = int8(r.Intn(256) - 128)
	case 2:
		w.Rate = math.Float32frombits(r.Uint32())
	case 3:
		w.Rate = oddNumbers[r.Intn(len(oddNumbers))]
	}
	return w
}

func anyCallOf(r *rand.Rand) anyCall {
	c := anyCall{q: randomAquifer(r), w: anyWell(r)}
	for i := range c.a {
		c.a[i] = float32(math.Exp2(150*r.Float64() - 75))
		if r.Intn(3) == 0 {
			c.a[i] = oddNumbers[r.Intn(len(oddNumbers))]
		}
	}
	if r.Intn(4) == 0 {
		c.q = impl.Aquifer{Transmit: c.a[0], Store: c.a[1]}
	}
	for range r.Intn(15) {
		c.wells = append(c.wells, anyWell(r))
	}
	for i := range c.n {
		c.n[i] = randomPlace(r)
		if i >= 2 {
			c.n[i] = randomMoment(r)
		}
		if r.Intn(12) == 0 {
			c.n[i] = wrongPlaces[r.Intn(len(wrongPlaces))]
		}
		if r.Intn(12) == 0 {
			c.n[i] = wrongMoments[r.Intn(len(wrongMoments))]
		}
	}
	text := []byte(impl.WellsText(c.wells))
	if r.Intn(2) == 0 {
		text = []byte(impl.WellsText(randomWells(r, r.Intn(13))))
	}
	for range r.Intn(3) {
		if len(text) > 0 {
			text[r.Intn(len(text))] = byte(r.Intn(256))
		}
	}
	c.text = string(text)
	return c
}

func TestPromise1AllWells(t *testing.T) {
	r := rand.New(rand.NewSource(18))
	for range 5000 {
		c := anyCallOf(r)
		// The unused capacity of a list must stay as well.
		whole := append(slices.Clone(c.wells), randomWells(r, 20)...)
		kept := slices.Clone(whole)
		second := c
		second.wells = slices.Clone(c.wells)
		c.wells = whole[:len(c.wells)]
		first := wellsOf(c)
		if !slices.EqualFunc(whole, kept, sameWell) {
			t.Fatal("an argument has been modified")
		}
		if again := wellsOf(second); first != again {
			t.Fatalf("equal arguments, other results:\n%s\n%s", first, again)
		}
	}
}

func TestPromise1AllNumbers(t *testing.T) {
	r := rand.New(rand.NewSource(19))
	for range 20000 {
		a := math.Float32frombits(r.Uint32())
		for name, series := range map[string]func(float32) (float32, int64){"LnOf": impl.LnOf, "ExpDown": impl.ExpDown, "WellFunction": impl.WellFunction} {
			value, code := series(a)
			again, sameCode := series(a)
			if !sameBits(value, again) || code != sameCode || code != impl.OK && code != impl.ErrRange {
				t.Errorf("%s %v: %v, code %d, and again %v, code %d", name, a, value, code, again, sameCode)
			}
			if code == impl.OK && math.IsNaN(float64(value)) || code != impl.OK && !sameBits(value, 0) {
				t.Errorf("%s %v: %v, code %d", name, a, value, code)
			}
		}
	}
}

func TestPromise1WellListsAreNew(t *testing.T) {
	wells := []impl.Well{{Rate: 1}, {X: 2, Rate: 3}}
	wells = append(make([]impl.Well, 0, 12), wells...)
	kept := slices.Clone(wells[:12])
	all, _ := impl.WithImages(wells, 4, true)
	read, _ := impl.ReadWells(someWellsText)
	for _, list := range [][]impl.Well{all, read} {
		for i := range list[:cap(list)] {
			list[:cap(list)][i] = impl.Well{X: 99}
		}
	}
	if !slices.EqualFunc(wells[:12], kept, sameWell) {
		t.Errorf("the images share memory with the wells: %v", wells)
	}
	read, code := impl.ReadWells(someWellsText)
	wantWells(t, "wells read again", read, code, someWells, impl.OK)
	first, _ := impl.DrawdownsAt(unitAquifer, wells, 1, 1, 1)
	want := slices.Clone(first)
	for i := range first[:cap(first)] {
		first[:cap(first)][i] = 99
	}
	again, code := impl.DrawdownsAt(unitAquifer, wells, 1, 1, 1)
	wantNumbers(t, "drawdowns that are not those before", again, code, want, impl.OK)
}

func TestPromise1WellsAtOnce(t *testing.T) {
	// Whichever goroutine is the first, the results are in the order of the wells.
	wells := randomWells(rand.New(rand.NewSource(20)), impl.MaxWells)
	want := make([]float32, len(wells))
	for i, w := range wells {
		want[i] = drawdownOf(unitAquifer, w, 2, 3, 50)
	}
	started := runtime.NumGoroutine()
	working := sync.WaitGroup{}
	for range 8 {
		working.Add(1)
		go func() {
			defer working.Done()
			for range 300 {
				list, code := impl.DrawdownsAt(unitAquifer, wells, 2, 3, 50)
				wantNumbers(t, "DrawdownsAt", list, code, want, impl.OK)
			}
		}()
	}
	working.Wait()
	for range 100 {
		if runtime.NumGoroutine() <= started {
			return
		}
		time.Sleep(10 * time.Millisecond)
	}
	t.Errorf("%d goroutines are left, and %d were there before", runtime.NumGoroutine(), started)
}

// Promise 7: the drawdowns of several wells are added.

func TestPromise7DrawdownsAreAdded(t *testing.T) {
	r := rand.New(rand.NewSource(21))
	for i := range 2000 {
		a, wells := randomAquifer(r), randomWells(r, i%(impl.MaxWells+1))
		x, y, time := randomPlace(r), randomPlace(r), randomMoment(r)
		list, code := impl.DrawdownsAt(a, wells, x, y, time)
		if code != impl.OK || len(list) != len(wells) {
			t.Fatalf("%d drawdowns of %d wells, code %d", len(list), len(wells), code)
		}
		sum := float32(0)
		for i, w := range wells {
			one, code := impl.DrawdownAt(a, w, x, y, time)
			wantResult(t, "one of several", list[i], code, one, impl.OK)
			alone, code := impl.SumAt(a, []impl.Well{w}, x, y, time)
			wantResult(t, "the sum of one", alone, code, one, impl.OK)
			if i == 0 {
				sum = one
			} else {
				sum = plus(sum, one)
			}
		}
		got, code := impl.SumAt(a, wells, x, y, time)
		wantResult(t, fmt.Sprint("SumAt ", a, wells, x, y, time), got, code, sum, impl.OK)
	}
}

// Promise 8: at a river a well and its image add up to 0, and a wall is the same from both sides.

func TestPromise8Images(t *testing.T) {
	r := rand.New(rand.NewSource(22))
	looked := 0
	for range 5000 {
		a, w, time, y := randomAquifer(r), randomWell(r), randomMoment(r), randomPlace(r)
		wall := randomPlace(r)
		river, code := impl.ImageOf(w, 2*wall, true)
		if code != impl.OK {
			continue
		}
		sum, code := impl.SumAt(a, []impl.Well{w, river}, wall, y, time)
		wantResult(t, fmt.Sprint("at a river ", a, w, wall), sum, code, 0, impl.OK)
		sum, code = impl.SumAt(a, []impl.Well{river, w}, wall, y, time)
		wantResult(t, fmt.Sprint("at a river, the image first ", a, w, wall), sum, code, 0, impl.OK)
		both, code := impl.WithImages([]impl.Well{w}, 2*wall, false)
		wantCode(t, "WithImages", code, impl.OK)
		x := randomPlace(r)
		if other := 2*wall - x; other >= -impl.MaxPlace && other <= impl.MaxPlace {
			here, code := impl.SumAt(a, both, x, y, time)
			wantCode(t, "on this side of a wall", code, impl.OK)
			there, code := impl.SumAt(a, both, other, y, time)
			wantResult(t, fmt.Sprint("on the other side of a wall ", a, both, x, other), there, code, here, impl.OK)
			looked++
		}
	}
	if looked < 1000 {
		t.Errorf("only %d walls have been looked at", looked)
	}
}

func TestPromise8NoRateAtARiver(t *testing.T) {
	for _, rate := range []float32{0, negativeZero} {
		w := impl.Well{X: 2, Rate: rate}
		both, code := impl.WithImages([]impl.Well{w}, 10, true)
		wantWells(t, "WithImages of no rate", both, code, []impl.Well{w, {X: 8, Rate: -rate}}, impl.OK)
		sum, code := impl.SumAt(unitAquifer, both, 5, 0, 10)
		wantResult(t, "at a river, without a rate", sum, code, 0, impl.OK)
		list, code := impl.DrawdownsAt(unitAquifer, both, 5, 0, 10)
		wantNumbers(t, "at a river, without a rate", list, code, []float32{rate, -rate}, impl.OK)
	}
}

func TestPromise8SeveralWells(t *testing.T) {
	wells := []impl.Well{{X: 1, Y: 2, Rate: 3}, {X: -4, Y: 5, Rate: 8}, {X: 6, Y: -7, Rate: -2}}
	river, code := impl.WithImages(wells, 20, true)
	wantCode(t, "WithImages", code, impl.OK)
	wall, code := impl.WithImages(wells, 20, false)
	wantCode(t, "WithImages", code, impl.OK)
	for y := int64(-10); y <= 10; y++ {
		sum, code := impl.SumAt(unitAquifer, river, 10, y, 100)
		if code != impl.OK || math.Abs(float64(sum)) > 1e-5 {
			t.Errorf("at a river the wells and their images have %v, code %d", sum, code)
		}
		for x := int64(-10); x < 10; x++ {
			here, _ := impl.SumAt(unitAquifer, wall, x, y, 100)
			there, _ := impl.SumAt(unitAquifer, wall, 20-x, y, 100)
			if math.Abs(float64(here-there)) > 1e-5 {
				t.Errorf("a wall has %v on one side, and %v on the other one", here, there)
			}
		}
	}
}

// Promise 9: times and radii of a drawdown are the first ones and the greatest ones.

func TestPromise9FirstTimes(t *testing.T) {
	r := rand.New(rand.NewSource(23))
	found := 0
	for range 150 {
		a, w, x, y := randomAquifer(r), randomWell(r), randomPlace(r), randomPlace(r)
		level, _ := impl.DrawdownAt(a, w, x, y, 1+int64(r.Intn(1000)))
		if !impl.IsPlain(level) {
			continue
		}
		first, code := impl.TimeUntil(a, w, x, y, level, 1000)
		if code != impl.OK || first < 1 || first > 1000 {
			t.Fatalf("TimeUntil %v: %d, code %d", level, first, code)
		}
		for time := int64(1); time <= first; time++ {
			s, _ := impl.DrawdownAt(a, w, x, y, time)
			if (s >= level) != (time == first) {
				t.Errorf("at %d the drawdown is %v; %d is to be the first time of %v", time, s, first, level)
			}
		}
		if first > 1 {
			late, code := impl.TimeUntil(a, w, x, y, level, first-1)
			wantCount(t, "TimeUntil, a time too short", late, code, 0, impl.ErrNotFound)
			found++
		}
	}
	if found < 20 {
		t.Errorf("only %d times are later than the first one", found)
	}
}

func TestPromise9GreatestRadii(t *testing.T) {
	r := rand.New(rand.NewSource(24))
	found := 0
	for range 2000 {
		a, w, time := randomAquifer(r), randomWell(r), randomMoment(r)
		east := min(impl.MaxPlace, int64(w.X)+int64(r.Intn(20)))
		level, _ := impl.DrawdownAt(a, w, east, int64(w.Y), time)
		if !impl.IsPlain(level) {
			continue
		}
		n, code := impl.RadiusOf(a, w, time, level)
		reached := int64(0)
		for x := int64(w.X); x <= impl.MaxPlace; x++ {
			if s, _ := impl.DrawdownAt(a, w, x, int64(w.Y), time); !(s >= level) {
				break
			}
			reached++
		}
		if reached == 0 {
			wantCount(t, "RadiusOf", n, code, 0, impl.ErrNotFound)
			continue
		}
		wantCount(t, "RadiusOf", n, code, reached-1, impl.OK)
		found++
	}
	if found < 1000 {
		t.Errorf("only %d radii have been found", found)
	}
}

// The guarantee of chapter 3 that a well that has not stopped draws down as before.
func TestBeforeAStopNothingRecovers(t *testing.T) {
	r := rand.New(rand.NewSource(25))
	for range 2000 {
		a, w, x, y := randomAquifer(r), randomWell(r), randomPlace(r), randomPlace(r)
		stop := randomMoment(r)
		time := 1 + r.Int63n(stop)
		s, _ := impl.DrawdownAt(a, w, x, y, time)
		rest, code := impl.RecoveryAt(a, w, x, y, stop, time)
		wantResult(t, "RecoveryAt a time before the stop", rest, code, s, impl.OK)
	}
}
