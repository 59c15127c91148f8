package tests

import (
	"math"
	"math/rand"
	"testing"

	"loop.example/g01288/impl"
)

// The example at the end of chapter 6.
func TestTidesExample(t *testing.T) {
	wantWave(t, "TimesWave", impl.TimesWave(waveOf(0, 1), waveOf(0, 1)), waveOf(-1, 0))
	wantHead(t, 5, waveOf(2, 0), 0, 7, impl.OK)
	wantHead(t, 5, waveOf(2, 0), 6, 3, impl.OK)
	wantHighest(t, waveOf(0, -2), 3, impl.OK)
	eight, half := waveOf(8, 0), waveOf(0.5, 0)
	wantInland(t, eight, half, 3, []impl.Wave{waveOf(8, 0), waveOf(4, 0), waveOf(2, 0)}, impl.OK)
	wantCellsUntil(t, eight, half, 2, 2, impl.OK)
	after, code := impl.StepGround(example(t), 0.25)
	wantResult(t, "the head of the cell 1", after.Heads[1], code, 4.5, impl.OK)
}

// Promise 1: every function returns for all arguments, modifies none, and returns equal results for equal ones.

// anyTide are arguments that need not be valid.
type anyTide struct {
	g      impl.Ground
	a, b   impl.Wave
	x      [3]float32
	n      [4]int64
	levels [12]int16
	text   string
}

// tideText returns what all functions of chapter 6 return, as text.
func tideText(c anyTide) string {
	out := ""
	add := func(results ...any) { out += textOf(results...) }
	add(impl.SameWave(c.a, c.b), impl.SameWave(c.a, c.a), impl.ValidWave(c.a))
	add(impl.TimesWave(c.a, c.b), impl.PlusWave(c.a, c.b), impl.WaveText(c.a))
	add(impl.TurnOf(c.n[0]))
	add(impl.SizeOfWave(c.a))
	add(impl.PowerOfWave(c.b, c.n[1]))
	waves, code := impl.WavesInland(c.a, c.b, c.n[1])
	for _, w := range waves {
		add(w)
	}
	add(len(waves), code)
	add(impl.HeadAtHour(c.x[0], c.a, c.n[0]))
	add(impl.HighestHour(c.a))
	add(impl.DelayInland(c.a, c.b, c.n[1]))
	add(impl.LoggedTide(c.x[0], c.a))
	add(impl.WaveFrom(c.levels))
	add(impl.CellsUntil(c.a, c.b, c.x[2]))
	add(impl.StepGround(c.g, c.x[1]))
	add(impl.StepsOf(c.g, c.x[1], c.n[2]))
	add(impl.StepsUntilStill(c.g, c.x[1], c.x[2], c.n[2]))
	add(impl.TideStep(c.g, c.x[0], c.a, c.n[0], c.x[1]))
	add(impl.TideRun(c.g, c.x[0], c.a, c.x[1], c.n[2]))
	add(impl.HeadsOverTime(c.g, c.x[0], c.a, c.x[1], c.n[2], c.n[3]))
	add(impl.ReadWave(c.text))
	return out
}

// anyWave returns a wave that need not be valid.
func anyWave(r *rand.Rand) impl.Wave {
	switch r.Intn(6) {
	case 0:
		return waveOf(anyNumber(r), anyNumber(r))
	case 1:
		return turningWave(r, 1)
	}
	return randomWave(r)
}

func anyTideOf(r *rand.Rand) anyTide {
	c := anyTide{g: calmGround(r), a: anyWave(r), b: anyWave(r), text: impl.WaveText(anyWave(r))}
	if r.Intn(2) == 0 {
		c.g = anyGround(r)
	}
	c.x = [3]float32{20 * r.Float32(), 0.1 * r.Float32(), 5 * r.Float32()}
	for i := range c.x {
		if r.Intn(4) == 0 {
			c.x[i] = anyNumber(r)
		}
	}
	c.n = [4]int64{r.Int63n(100001), r.Int63n(61), r.Int63n(20), r.Int63n(64)}
	for i := range c.n {
		if r.Intn(8) == 0 {
			c.n[i] = []int64{-1, 59, 60, 61, 400, 401, 100000, 100001, math.MaxInt64, math.MinInt64}[r.Intn(10)]
		}
	}
	for hour := range c.levels {
		c.levels[hour] = randomLevel(r)
	}
	if r.Intn(3) == 0 {
		c.text = anyText(r, c.g)
	}
	return c
}

func TestPromise1AllTides(t *testing.T) {
	r := rand.New(rand.NewSource(91))
	for range 3000 {
		first := anyTideOf(r)
		second := first
		got := tideText(first)
		if !sameGround(first.g, second.g) || first.levels != second.levels {
			t.Fatal("an argument has been modified")
		}
		if again := tideText(second); got != again {
			t.Fatalf("equal arguments, other results:\n%s\n%s", got, again)
		}
	}
}

func TestPromise1TidesAtTheSameTime(t *testing.T) {
	r := rand.New(rand.NewSource(92))
	c := anyTide{g: calmGround(r), a: waveOf(3, -2), b: waveOf(0.5, 0.25), x: [3]float32{7, 0.02, 0.1}, n: [4]int64{50, 50, 50, 0}, text: "00000000 80000000"}
	want := tideText(c)
	got := make(chan string)
	const callers = 20
	for range callers {
		go func() { got <- tideText(c) }()
	}
	for range callers {
		if again := <-got; again != want {
			t.Errorf("equal arguments at the same time, other results:\n%s\n%s", again, want)
		}
	}
}

func TestPromise1TideListsAreNew(t *testing.T) {
	waves := func() []impl.Wave {
		list, _ := impl.WavesInland(waveOf(8, 0), waveOf(0.5, 0), 20)
		return list
	}
	heads := func() []float32 {
		list, _ := impl.HeadsOverTime(example(t), 5, waveOf(2, 0), 0.1, 40, 1)
		return list
	}
	firstWaves, firstHeads := waves(), heads()
	for i, list := 0, waves(); i < cap(list); i++ {
		list[:cap(list)][i] = waveOf(notANumber, notANumber)
	}
	for i, list := 0, heads(); i < cap(list); i++ {
		list[:cap(list)][i] = notANumber
	}
	wantWaves(t, "waves behind a change", waves(), impl.OK, firstWaves, impl.OK)
	wantNumbers(t, "heads behind a change", heads(), impl.OK, firstHeads, impl.OK)
}

// Promise 14: waves inland are products, and are read from their texts (see also TestPromise14WavesAreRead).

func TestPromise14WavesInlandAreProducts(t *testing.T) {
	r := rand.New(rand.NewSource(93))
	looked := 0
	for range 3000 {
		edge, factor := randomWave(r), turningWave(r, 1.1*r.Float64())
		cells := int64(r.Intn(impl.MaxCells + 1))
		waves, code := impl.WavesInland(edge, factor, cells)
		if code != impl.OK {
			wantWaves(t, "waves beside an error", waves, code, nil, impl.ErrState)
			continue
		}
		if len(waves) != int(cells) {
			t.Fatalf("there are %d waves at %d cells", len(waves), cells)
		}
		for cell, w := range waves {
			if cell == 0 {
				wantWave(t, "the wave at the edge", w, edge)
			} else {
				wantWave(t, "a wave that is the one before times the factor", w, impl.TimesWave(waves[cell-1], factor))
			}
			size, code := impl.SizeOfWave(w)
			wantCode(t, "SizeOfWave", code, impl.OK)
			n, code := impl.CellsUntil(edge, factor, min(size, impl.MaxSize))
			if size <= impl.MaxSize && (code != impl.OK || n > int64(cell)) {
				t.Errorf("the size %v of the cell %d is there behind %d cells, code %d", size, cell, n, code)
			}
			looked++
		}
	}
	if looked < 30000 {
		t.Errorf("only %d waves have been looked at", looked)
	}
}

func TestPromise14PowersAreWavesInland(t *testing.T) {
	r := rand.New(rand.NewSource(94))
	for range 500 {
		w := turningWave(r, 0.5+0.6*r.Float64())
		waves, code := impl.WavesInland(waveOf(1, 0), w, impl.MaxCells)
		wantCode(t, "WavesInland", code, impl.OK)
		for n, want := range waves {
			wantPower(t, w, int64(n), want, impl.OK)
		}
	}
}

// Products of waves have the product of the sizes, nearly, and turn by both of the angles.
func TestProductsTurn(t *testing.T) {
	r := rand.New(rand.NewSource(95))
	for range 2000 {
		a, b := turningWave(r, 10*r.Float64()), turningWave(r, 10*r.Float64())
		exact := complex128(a) * complex128(b)
		got := complex128(impl.TimesWave(a, b))
		if gap := math.Hypot(real(got-exact), imag(got-exact)); gap > 1e-4 {
			t.Errorf("the product of %v and %v is %v, and not %v", a, b, got, exact)
		}
	}
	for hour := range int64(24) {
		turn, _ := impl.TurnOf(hour)
		angle := 2 * math.Pi * float64(hour) / 12
		if gap := math.Hypot(float64(firstOf(turn))-math.Cos(angle), float64(secondOf(turn))-math.Sin(angle)); gap > 1e-7 {
			t.Errorf("the turn of the hour %d is %v", hour, turn)
		}
	}
}

// Promise 15: fixed cells keep their heads in steps, and steps are made one after the other.

func TestPromise15FixedCellsKeepTheirHeads(t *testing.T) {
	r := rand.New(rand.NewSource(96))
	looked := 0
	for _, g := range manyGrounds(300) {
		part := float32(0.1 * r.Float64())
		once, code := impl.StepGround(g, part)
		many, manyCode := impl.StepsOf(g, part, 20)
		still, _, stillCode := impl.StepsUntilStill(g, part, 1, 20)
		tide, tideCode := impl.TideStep(g, 3, waveOf(2, 1), 5, part)
		head, _ := impl.HeadAtHour(3, waveOf(2, 1), 5)
		for _, cell := range cellsOf(g) {
			if !isFixed(g, cell) {
				continue
			}
			for _, c := range []struct {
				after impl.Ground
				code  int64
				head  float32
			}{{once, code, g.Heads[cell]}, {many, manyCode, g.Heads[cell]}, {still, stillCode, g.Heads[cell]}, {tide, tideCode, head}} {
				if c.code == impl.OK {
					wantNumber(t, "the head of a fixed cell", c.after.Heads[cell], c.head)
					looked++
				}
			}
		}
	}
	if looked < 5000 {
		t.Errorf("only %d heads have been looked at", looked)
	}
}

func TestPromise15StepsAreMadeOneAfterTheOther(t *testing.T) {
	r := rand.New(rand.NewSource(97))
	for _, g := range manyGrounds(200) {
		part, count := float32(0.1*r.Float64()), int64(1+r.Intn(30))
		before, code := impl.StepsOf(g, part, count-1)
		var want impl.Ground
		if code == impl.OK {
			want, code = impl.StepGround(before, part)
		}
		after, afterCode := impl.StepsOf(g, part, count)
		wantGround(t, "one step more", after, afterCode, want, code)
		half, code := impl.StepsOf(g, part, count/2)
		if code == impl.OK {
			want, code = impl.StepsOf(half, part, count-count/2)
			wantGround(t, "steps behind steps", after, afterCode, want, code)
		}
	}
}

func TestPromise15TideStepsAreMadeOneAfterTheOther(t *testing.T) {
	r := rand.New(rand.NewSource(98))
	for _, g := range calmGrounds(200) {
		mean, w, part := float32(10*r.NormFloat64()), turningWave(r, 5*r.Float64()), float32(0.05*r.Float64())
		hours, cells := int64(r.Intn(40)), cellsOf(g)
		cell := cells[r.Intn(len(cells))]
		now, code := g, int64(impl.OK)
		var heads []float32
		for hour := range hours {
			now, code = impl.TideStep(now, mean, w, hour, part)
			wantCode(t, "TideStep", code, impl.OK)
			heads = append(heads, now.Heads[cell])
		}
		wantRun(t, "tide steps, one by one", tideCall{g, mean, w, part}, hours, cell, now, heads, impl.OK)
	}
}

func TestPromise15StillBehindSteps(t *testing.T) {
	r := rand.New(rand.NewSource(99))
	found := 0
	for _, g := range calmGrounds(200) {
		part, small := float32(0.03*r.Float64()), float32(0.5+3*r.Float64())
		after, steps, code := impl.StepsUntilStill(g, part, small, impl.MaxHours)
		if code != impl.OK {
			wantGroundAndCount(t, "never still", after, steps, code, impl.Ground{}, 0, impl.ErrBudget)
			continue
		}
		found++
		want, code := impl.StepsOf(g, part, steps)
		wantGround(t, "as many steps", after, impl.OK, want, code)
		now := g
		for made := range steps + 1 {
			_, worst, code := impl.WorstBalance(now)
			if isStill := code == impl.ErrNotFound || sizeOf(worst) <= small; isStill != (made == steps) {
				t.Fatalf("behind %d of %d steps the worst balance is %v, and %v is small", made, steps, worst, small)
			}
			now, code = impl.StepGround(now, part)
			wantCode(t, "StepGround", code, impl.OK)
		}
	}
	if found < 50 {
		t.Errorf("only %d grounds become still", found)
	}
}

// The guarantees of chapter 6 that a step without balances changes no head, and that a logger is near to the head.

func TestStepWithoutBalances(t *testing.T) {
	for _, g := range randomGrounds(200) {
		g.Gain = impl.Field{}
		for _, cell := range cellsOf(g) {
			g.Heads[cell] = 7
		}
		for _, part := range partsOfSteps {
			wantHeadsBehind(t, "balances of 0", g, part, 5, g.Heads)
		}
	}
}

func TestLoggedTidesAreNear(t *testing.T) {
	r := rand.New(rand.NewSource(100))
	for range 3000 {
		mean, w := float32(2000*r.Float64()-1000), turningWave(r, 1000*r.Float64())
		levels, code := impl.LoggedTide(mean, w)
		wantCode(t, "LoggedTide", code, impl.OK)
		for hour, level := range levels {
			head, _ := impl.HeadAtHour(mean, w, int64(hour))
			if gap := math.Abs(float64(head) - float64(level)/16); gap > 1.0/32+1e-4 {
				t.Errorf("a logger has %d of the head %v", level, head)
			}
		}
	}
}
