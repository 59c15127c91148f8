package tests

import (
	"math"
	"math/rand"
	"testing"

	"loop.example/g01288/impl"
)

// The example at the end of chapter 5.
func TestSaltExample(t *testing.T) {
	g := even(t, 2, 2, 1, 0)
	g, code := impl.WithHead(g, 1, 2)
	wantCode(t, "WithHead", code, impl.OK)
	b := impl.Brine{Ground: g, Room: 10}
	b.Salt[1] = 4
	out, code := impl.GoesOut(b, 1)
	wantResult(t, "GoesOut", out, code, 4, impl.OK)
	after, code := impl.MoveSalt(b, 1)
	wantResult(t, "the salt of the cell 1", after.Salt[1], code, 2.4, impl.OK)
	wantResult(t, "the salt of the cell 9", after.Salt[9], code, 0.8, impl.OK)
	safe, code := impl.SafeStep(b)
	wantResult(t, "SafeStep", safe, code, 1.25, impl.OK)
	gone, code := impl.GoneAfter(1, 0.5, impl.MaxMoves)
	wantCount(t, "GoneAfter", gone, code, 150, impl.OK)
	left, code := impl.DecayedNumber(8, 0.5, 3)
	wantResult(t, "DecayedNumber", left, code, 1, impl.OK)
}

// Promise 1: every function returns for all arguments, modifies none, and returns equal results for equal ones.

// anySalt are arguments that need not be valid.
type anySalt struct {
	a, b impl.Brine
	n    [2]int64
	x    [4]float32
}

// saltText returns what all functions of chapter 5 return, as text.
func saltText(c anySalt) string {
	out := ""
	add := func(results ...any) { out += textOf(results...) }
	add(impl.ValidBrine(c.a), impl.SameBrine(c.a, c.b), impl.SameBrine(c.a, c.a))
	add(impl.GoesOut(c.a, c.n[0]))
	add(impl.ComesIn(c.a, c.n[0]))
	add(impl.SafeStep(c.a))
	add(impl.IsSmallStep(c.a, c.x[0]))
	add(impl.MoveSalt(c.a, c.x[0]))
	add(impl.MoveTimes(c.a, c.x[0], c.n[1]))
	add(impl.SaltIn(c.a))
	add(impl.FrontOf(c.a, c.x[1]))
	add(impl.StepsUntil(c.a, c.x[0], c.n[0], c.x[1], c.n[1]))
	add(impl.DecaySalt(c.a, c.x[2], c.n[1]))
	add(impl.DecayedNumber(c.x[3], c.x[2], c.n[1]))
	add(impl.GoneAfter(c.x[3], c.x[2], c.n[1]))
	add(impl.MixBrines(c.a, c.b, c.x[2]))
	add(impl.SaltiestCell(c.a))
	add(impl.ReverseBrine(c.a))
	return out
}

// anyBrine returns a brine that need not be valid.
func anyBrine(r *rand.Rand) impl.Brine {
	b := randomBrine(r)
	switch r.Intn(10) {
	case 0:
		b.Ground = anyGround(r)
	case 1:
		b.Salt[r.Intn(64)] = anyNumber(r)
	case 2:
		b.Spring[r.Intn(64)] = anyNumber(r)
	case 3:
		b.Room = anyNumber(r)
	case 4:
		for cell := range b.Salt {
			b.Salt[cell], b.Spring[cell] = anyNumber(r), anyNumber(r)
		}
	}
	return b
}

func anySaltOf(r *rand.Rand) anySalt {
	c := anySalt{a: anyBrine(r), b: anyBrine(r), n: [2]int64{int64(r.Intn(64)), int64(r.Intn(20))}}
	if r.Intn(3) == 0 {
		c.b.Ground = c.a.Ground
	}
	if r.Intn(6) == 0 {
		c.n[0] = wrongCells[r.Intn(len(wrongCells))]
	}
	if r.Intn(6) == 0 {
		c.n[1] = []int64{-1, 0, impl.MaxMoves, impl.MaxMoves + 1, math.MaxInt64, math.MinInt64}[r.Intn(6)]
	}
	c.x = [4]float32{r.Float32(), 30 * r.Float32(), r.Float32(), randomAmount(r)}
	if limit, code := impl.SafeStep(c.a); code == impl.OK {
		c.x[0] = limit
	}
	for i := range c.x {
		if r.Intn(4) == 0 {
			c.x[i] = anyNumber(r)
		}
	}
	return c
}

func TestPromise1AllSalt(t *testing.T) {
	r := rand.New(rand.NewSource(66))
	for range 3000 {
		first := anySaltOf(r)
		second := first
		got := saltText(first)
		if !sameBrine(first.a, second.a) || !sameBrine(first.b, second.b) {
			t.Fatal("an argument has been modified")
		}
		if again := saltText(second); got != again {
			t.Fatalf("equal arguments, other results:\n%s\n%s", got, again)
		}
	}
}

func TestPromise1SaltAtTheSameTime(t *testing.T) {
	r := rand.New(rand.NewSource(67))
	c := anySalt{a: calmBrine(r), b: calmBrine(r), n: [2]int64{0, 50}, x: [4]float32{0.001, 5, 0.5, 7}}
	want := saltText(c)
	got := make(chan string)
	const callers = 20
	for range callers {
		go func() { got <- saltText(c) }()
	}
	for range callers {
		if again := <-got; again != want {
			t.Errorf("equal arguments at the same time, other results:\n%s\n%s", again, want)
		}
	}
}

// Promise 12: salt is never less than nothing, and what all cells gain in a step is what comes in less what goes out, nearly.

func TestPromise12SaltIsNeverLessThanNothing(t *testing.T) {
	looked := 0
	for _, b := range randomBrines(400) {
		for _, step := range stepsFor(b) {
			for _, count := range []int64{1, 2, 20} {
				after, code := impl.MoveTimes(b, step, count)
				if code != impl.OK {
					continue
				}
				if !impl.ValidBrine(after) {
					t.Fatalf("a brine that is not valid: %v", after)
				}
				for _, cell := range cellsOf(b.Ground) {
					if !(after.Salt[cell] >= 0) {
						t.Fatalf("the cell %d has the salt %v behind %d steps of %v", cell, after.Salt[cell], count, step)
					}
					if isFixed(b.Ground, cell) && !sameBits(after.Salt[cell], b.Salt[cell]) {
						t.Errorf("the salt of the fixed cell %d becomes %v, and was %v", cell, after.Salt[cell], b.Salt[cell])
					}
				}
				looked++
			}
		}
		mixed, code := impl.MixBrines(b, randomBrinesLike(b), 0.7)
		if code != impl.OK || !areSalts(mixed) {
			t.Errorf("mixed salt is %v, code %d", mixed.Salt, code)
		}
	}
	if looked < 5000 {
		t.Errorf("only %d moves have been looked at", looked)
	}
}

// randomBrinesLike returns a brine with the same ground, and other salt.
func randomBrinesLike(b impl.Brine) impl.Brine {
	return saltBrine(rand.New(rand.NewSource(68)), b.Ground, randomAmount)
}

func TestPromise12WhatComesInLessWhatGoesOut(t *testing.T) {
	r := rand.New(rand.NewSource(69))
	for range 400 {
		b := calmBrine(r)
		step := limitOf(b) * r.Float32()
		if step > 100 {
			continue
		}
		after, code := impl.MoveSalt(b, step)
		wantCode(t, "MoveSalt", code, impl.OK)
		gained, told, turned := 0.0, 0.0, 1.0
		for _, cell := range cellsOf(b.Ground) {
			gained += float64(b.Room) * (float64(after.Salt[cell]) - float64(b.Salt[cell]))
			if isFixed(b.Ground, cell) {
				continue
			}
			in, _ := impl.ComesIn(b, cell)
			out, _ := impl.GoesOut(b, cell)
			told += float64(step) * (float64(in) - float64(out)*float64(b.Salt[cell]))
			turned += float64(step)*float64(in) + float64(b.Room)*float64(b.Salt[cell])
		}
		if math.Abs(gained-told) > 1e-6*turned {
			t.Errorf("all cells gain %v in a step of %v, and not %v", gained, step, told)
		}
	}
}

func TestPromise12SaltIsKeptAmongCells(t *testing.T) {
	r := rand.New(rand.NewSource(70))
	for range 100 {
		b := calmBrine(r)
		// No water goes through the fixed cell alone, and none comes from elsewhere.
		b.Ground.Fixed, b.Ground.Gain, b.Ground.Conduct[0] = 1, impl.Field{}, 0
		before, code := impl.SaltIn(b)
		wantCode(t, "SaltIn", code, impl.OK)
		after, code := impl.MoveTimes(b, limitOf(b)/2, 30)
		if code != impl.OK {
			t.Fatalf("the code is %d", code)
		}
		behind, code := impl.SaltIn(after)
		if code != impl.OK || math.Abs(float64(behind-before)) > 1e-4*float64(before) {
			t.Errorf("there is the salt %v, and was %v, code %d", behind, before, code)
		}
	}
}

// The guarantees of chapter 5 that what a cell loses to a neighbour comes in there, and that without flows the salt stays.

func TestWhatIsLostComesIn(t *testing.T) {
	r := rand.New(rand.NewSource(71))
	for range 300 {
		b := impl.Brine{Ground: even(t, 2, 2, 0, 0), Room: float32(1 + 9*r.Float64())}
		b.Ground.Conduct[1], b.Ground.Conduct[9] = 1+r.Float32(), 1+r.Float32()
		b.Ground.Heads[1] = 5 * r.Float32()
		b.Salt[1], b.Salt[9] = 20*r.Float32(), 20*r.Float32()
		after, code := impl.MoveSalt(b, 0.1)
		lost, come := b.Salt[1]-after.Salt[1], after.Salt[9]-b.Salt[9]
		if code != impl.OK || lost < 0 || math.Abs(float64(lost-come)) > 1e-5 {
			t.Errorf("the cell 1 loses %v, and %v comes into the cell 9, code %d", lost, come, code)
		}
	}
}

func TestWithoutFlowsSaltStays(t *testing.T) {
	for _, b := range randomBrines(200) {
		b.Ground.Gain = impl.Field{}
		for _, cell := range cellsOf(b.Ground) {
			b.Ground.Heads[cell] = 7
		}
		after, code := impl.MoveTimes(b, impl.MaxSize, 3)
		wantCode(t, "MoveTimes", code, impl.OK)
		if after.Salt != b.Salt {
			t.Errorf("the salt %v has become %v", b.Salt, after.Salt)
		}
		_, code = impl.SafeStep(b)
		wantCode(t, "SafeStep", code, impl.ErrNotFound)
	}
}

// What goes out of all cells of a ground without gains comes into others when all of them have the salt 1, and the other way round when water flows backward.
func TestReversedFlows(t *testing.T) {
	for _, b := range randomBrines(300) {
		for _, cell := range cellsOf(b.Ground) {
			b.Salt[cell], b.Spring[cell] = 1, 1
		}
		back, code := impl.ReverseBrine(b)
		wantCode(t, "ReverseBrine", code, impl.OK)
		for _, cell := range cellsOf(b.Ground) {
			out, _ := impl.GoesOut(b, cell)
			wantIn(t, "backward, with the salt 1", back, cell, out)
			in, _ := impl.ComesIn(b, cell)
			wantOut(t, "backward", back, cell, in)
		}
	}
}
