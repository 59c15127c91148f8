package tests

import (
	"fmt"
	"math"
	"math/rand"
	"testing"

	"loop.example/g01288/impl"
)

// allFixed returns a ground all of whose cells are fixed, with other heads each.
func allFixed(t *testing.T) impl.Ground {
	t.Helper()
	g := even(t, 3, 2, 2, 5)
	for _, cell := range cellsOf(g) {
		g.Fixed |= 1 << cell
		g.Heads[cell] = float32(cell) - 4
	}
	return g
}

// welling is a ground without flows, whose cell 9 has that head and gains so much.
func welling(t *testing.T, head, gain float32) impl.Ground {
	t.Helper()
	g := even(t, 2, 2, 0, 0)
	g.Heads[9], g.Gain[9] = head, gain
	return g
}

// partsOfSteps are those with which steps are looked at.
var partsOfSteps = []float32{0, negativeZero, 0.25, 0.125, 0.1, 1, -0.25, 3, 1e-20, 1e-38, least, impl.MaxSize, -impl.MaxSize}

// wantHeadsBehind checks the ground behind steps that have no error.
func wantHeadsBehind(t *testing.T, name string, g impl.Ground, part float32, steps int64, heads impl.Field) {
	t.Helper()
	want := g
	want.Heads = heads
	if steps == 1 {
		after, code := impl.StepGround(g, part)
		wantGround(t, "StepGround, "+name, after, code, want, impl.OK)
	}
	after, code := impl.StepsOf(g, part, steps)
	wantGround(t, "StepsOf, "+name, after, code, want, impl.OK)
}

// wantNoStep checks the error of steps.
func wantNoStep(t *testing.T, name string, g impl.Ground, part float32, steps, want int64) {
	t.Helper()
	if steps == 1 {
		after, code := impl.StepGround(g, part)
		wantGround(t, "StepGround, "+name, after, code, impl.Ground{}, want)
	}
	after, code := impl.StepsOf(g, part, steps)
	wantGround(t, fmt.Sprint("StepsOf ", steps, ", ", name), after, code, impl.Ground{}, want)
}

func TestStepGround(t *testing.T) {
	g := example(t)
	wantHeadsBehind(t, "the example", g, 0.25, 1, impl.Field{0: 5, 1: 4.5, 2: 5.5, 8: 5, 9: 5.5, 10: 5})
	wantHeadsBehind(t, "a part of -0.25", g, -0.25, 1, impl.Field{0: 5, 1: 7.5, 2: 4.5, 8: 5, 9: 4.5, 10: 5})
	wantHeadsBehind(t, "two steps", g, 0.25, 2, impl.Field{0: 5, 1: 5.75, 2: 4.75, 8: 5.25, 9: 4.5, 10: 5.5})
	wantHeadsBehind(t, "no step", g, 0.25, 0, g.Heads)
	wantHeadsBehind(t, "a part of 0", g, 0, 1, g.Heads)
	g.Fixed = 1<<1 | 1<<9
	wantHeadsBehind(t, "other cells fixed", g, 0.25, 1, impl.Field{0: 5.5, 1: 6, 2: 5.5, 8: 5, 9: 5, 10: 5})
	g.Gain[8], g.Gain[9], g.Gain[2] = 4, impl.MaxSize, -1
	wantHeadsBehind(t, "gains", g, 0.25, 1, impl.Field{0: 5.5, 1: 6, 2: 5.25, 8: 6, 9: 5, 10: 5})
	g = even(t, 2, 2, 1, 0)
	g.Conduct[1], g.Heads[1] = 3, 4
	wantHeadsBehind(t, "other joints", g, 0.5, 1, impl.Field{1: -2, 9: 3})
}

func TestStepsOfFixedCells(t *testing.T) {
	g := allFixed(t)
	g.Gain[9], g.Gain[0], g.Heads[1] = impl.MaxSize, -impl.MaxSize, negativeZero
	for _, part := range partsOfSteps {
		wantHeadsBehind(t, "all cells fixed", g, part, 1, g.Heads)
		wantHeadsBehind(t, "all cells fixed, many steps", g, part, impl.MaxHours, g.Heads)
	}
}

func TestSignsOfStillHeads(t *testing.T) {
	g := even(t, 2, 2, 1, 0)
	g.Heads = impl.Field{0: negativeZero, 1: negativeZero, 2: negativeZero, 8: negativeZero, 9: negativeZero, 63: negativeZero}
	// The balance of a cell is 0 less 0, which is 0, and -0 with it is 0; what is fixed, or no cell, stays.
	wantHeadsBehind(t, "heads of -0", g, 0.25, 1, impl.Field{0: negativeZero, 2: negativeZero, 63: negativeZero})
	wantHeadsBehind(t, "heads of -0, a part of -0.25", g, -0.25, 1, g.Heads)
	g.Gain[1], g.Gain[8], g.Gain[9] = negativeZero, negativeZero, negativeZero
	wantHeadsBehind(t, "heads and gains of -0", g, 0.25, 1, g.Heads)
	wantHeadsBehind(t, "heads and gains of -0, a part of -0", g, negativeZero, 1, impl.Field{0: negativeZero, 2: negativeZero, 63: negativeZero})
	g = welling(t, negativeZero, -1)
	wantHeadsBehind(t, "a product of -0", g, 0, 1, impl.Field{9: negativeZero})
	wantHeadsBehind(t, "a product of 0", g, negativeZero, 1, impl.Field{})
}

func TestStepsOfSubnormalNumbers(t *testing.T) {
	for _, c := range []struct{ head, gain, part, want float32 }{
		{0, least, 1, least},
		{0, least, 0.5, 0},
		{negativeZero, -least, 0.5, negativeZero},
		{0, 3 * least, 0.5, 2 * least},
		{least, least, 0.75, 2 * least},
		{-least, 1, least, 0},
		{0, 1e-30, 1e-30, 0},
		{1, least, impl.MaxSize, 1},
		{0, least, impl.MaxSize, impl.MaxSize * least},
	} {
		wantHeadsBehind(t, fmt.Sprint("subnormal numbers ", c), welling(t, c.head, c.gain), c.part, 1, impl.Field{9: c.want})
	}
}

func TestStepsRoundEachTime(t *testing.T) {
	// The product 1 + 2 to the power -11 + 2 to the power -24 is rounded ahead of the sum.
	wide := 1 + float32(1.0/4096)
	wantHeadsBehind(t, "a product that is rounded", welling(t, -1-1.0/2048, wide), wide, 1, impl.Field{})
	wantHeadsBehind(t, "a sum that is rounded", welling(t, 16384, 0.0004), 1, 1, impl.Field{9: 16384})
}

func TestStepsToNoGround(t *testing.T) {
	const most = impl.MaxSize
	for _, c := range []struct {
		head, gain, part float32
		steps            int64
		code             int64
	}{
		{most - 1, 1, 1, 1, impl.OK},
		{most - 1, 1, 1, 2, impl.ErrState},
		{most - 1, 1, 1, impl.MaxHours, impl.ErrState},
		{most - 1, 1, 1.0625, 1, impl.OK},
		{most - 1, 1, 1.125, 1, impl.ErrState},
		{most, 0, most, impl.MaxHours, impl.OK},
		{most, 0.0625, 1, impl.MaxHours, impl.OK},
		{most, 0.125, 1, 1, impl.ErrState},
		{most, 1, 0, impl.MaxHours, impl.OK},
		{most, 1, -1, 1, impl.OK},
		{1 - most, -1, 1, 1, impl.OK},
		{1 - most, -1, 1, 2, impl.ErrState},
		{-most, 1, -1, 1, impl.ErrState},
		{0, most, most, 1, impl.ErrState},
		{0, most, -most, 1, impl.ErrState},
		{0, most / 8, 1, 8, impl.OK},
		{0, most / 8, 1, 9, impl.ErrState},
		{0, most / 8, 1, 0, impl.OK},
		{0, most / 400, 1, impl.MaxHours, impl.OK},
	} {
		g := welling(t, c.head, c.gain)
		want, code := seepsOf(g, c.part, c.steps)
		wantCode(t, fmt.Sprint("steps written down, ", c), code, c.code)
		if code != impl.OK {
			wantNoStep(t, fmt.Sprint(c), g, c.part, c.steps, impl.ErrState)
			continue
		}
		wantHeadsBehind(t, fmt.Sprint(c), g, c.part, c.steps, want.Heads)
	}
	// One head that is not plain is enough.
	g := example(t)
	g.Gain[10] = impl.MaxSize
	wantNoStep(t, "the last cell", g, 2, 1, impl.ErrState)
	g = example(t)
	g.Gain[1] = -impl.MaxSize
	wantNoStep(t, "the first one of those that are not fixed", g, 2, 1, impl.ErrState)
}

func TestStepsCheckArguments(t *testing.T) {
	for _, broken := range brokenGrounds(t) {
		for _, part := range append([]float32{0.25}, notPlain...) {
			for _, steps := range append([]int64{0, 1, impl.MaxHours}, wrongHours...) {
				wantNoStep(t, "a ground with "+broken.name, broken.ground, part, steps, impl.ErrInvalid)
			}
		}
	}
	for _, g := range []impl.Ground{example(t), allFixed(t), welling(t, 0, impl.MaxSize)} {
		for _, part := range notPlain {
			for _, steps := range append([]int64{0, 1, impl.MaxHours}, wrongHours...) {
				wantNoStep(t, fmt.Sprint("the part ", part), g, part, steps, impl.ErrInvalid)
			}
		}
		for _, steps := range wrongHours {
			wantNoStep(t, "a wrong number", g, impl.MaxSize, steps, impl.ErrRange)
		}
	}
}

func TestStepsOfMany(t *testing.T) {
	codes := map[int64]int{}
	r := rand.New(rand.NewSource(87))
	for i, g := range manyGrounds(300) {
		for _, part := range append([]float32{float32(0.1 * r.Float64()), randomPlain(r)}, partsOfSteps...) {
			want, wantedCode := seepOf(g, part)
			after, code := impl.StepGround(g, part)
			wantGround(t, fmt.Sprint("StepGround of the ground ", i, " by ", part), after, code, want, wantedCode)
			codes[wantedCode]++
			for _, steps := range []int64{0, 2, 9} {
				want, wantedCode = seepsOf(g, part, steps)
				after, code = impl.StepsOf(g, part, steps)
				wantGround(t, fmt.Sprint("StepsOf the ground ", i, " by ", part), after, code, want, wantedCode)
			}
		}
	}
	wantAllCodes(t, "StepGround", codes, 500, impl.OK, impl.ErrState)
	for i, g := range calmGrounds(20) {
		want, wantedCode := seepsOf(g, 0.02, impl.MaxHours)
		after, code := impl.StepsOf(g, 0.02, impl.MaxHours)
		wantGround(t, fmt.Sprint("as many steps as there may be, of the ground ", i), after, code, want, wantedCode)
	}
}

func wantUntilStill(t *testing.T, name string, g impl.Ground, part, small float32, most int64, want impl.Ground, wantedSteps, wantedCode int64) {
	t.Helper()
	after, steps, code := impl.StepsUntilStill(g, part, small, most)
	wantGroundAndCount(t, fmt.Sprint("StepsUntilStill ", part, " ", small, " ", most, ", ", name), after, steps, code, want, wantedSteps, wantedCode)
}

// wantNoneStill checks the error of StepsUntilStill.
func wantNoneStill(t *testing.T, name string, g impl.Ground, part, small float32, most, wantedCode int64) {
	t.Helper()
	wantUntilStill(t, name, g, part, small, most, impl.Ground{}, 0, wantedCode)
}

func TestStepsUntilStill(t *testing.T) {
	g := example(t)
	once, _ := seepsOf(g, 0.25, 1)
	// The greatest size of a balance is 6 at first, and 5 behind a step.
	wantUntilStill(t, "still already", g, 0.25, 6, 10, g, 0, impl.OK)
	wantUntilStill(t, "still already, without a step", g, 0.25, 6, 0, g, 0, impl.OK)
	wantUntilStill(t, "still already, with a part that would burst", g, impl.MaxSize, 6, 1, g, 0, impl.OK)
	wantUntilStill(t, "one step", g, 0.25, justBelow(6), 10, once, 1, impl.OK)
	wantUntilStill(t, "one step at most", g, 0.25, justBelow(6), 1, once, 1, impl.OK)
	wantNoneStill(t, "no step", g, 0.25, justBelow(6), 0, impl.ErrBudget)
	wantNoneStill(t, "never", g, 0, justBelow(6), impl.MaxHours, impl.ErrBudget)
	g.Gain[0] = impl.MaxSize
	wantUntilStill(t, "a fixed cell is not looked at", g, 0.25, 6, 10, g, 0, impl.OK)
	g = welling(t, 0, -3)
	wantUntilStill(t, "a balance less than 0", g, 1, 3, 0, g, 0, impl.OK)
	wantNoneStill(t, "a balance less than 0", g, 1, justBelow(3), 0, impl.ErrBudget)
	wantNoneStill(t, "a balance less than 0", g, 1, justBelow(3), impl.MaxHours, impl.ErrBudget)
	g = welling(t, 0, least)
	wantUntilStill(t, "a subnormal balance", g, 1, least, 5, g, 0, impl.OK)
	wantNoneStill(t, "a subnormal balance", g, 1, 0, 5, impl.ErrBudget)
}

func TestStepsUntilStillIsSmall(t *testing.T) {
	calm := even(t, 3, 2, 2, 5)
	for _, small := range []float32{0, negativeZero} {
		wantUntilStill(t, "balances of 0", calm, 0.25, small, 0, calm, 0, impl.OK)
		wantNoneStill(t, "balances that are not 0", example(t), 0.25, small, 1, impl.ErrBudget)
	}
	all := allFixed(t)
	for _, small := range []float32{-least, -1, -impl.MaxSize} {
		for _, most := range []int64{0, 1, impl.MaxHours} {
			wantNoneStill(t, "no size is less than 0", calm, 0.25, small, most, impl.ErrBudget)
			wantUntilStill(t, "all cells fixed", all, 0.25, small, most, all, 0, impl.OK)
		}
	}
	g := example(t)
	g.Fixed = 1 | 1<<2 | 1<<8 | 1<<9 | 1<<10
	want := g
	want.Heads[1] = 5
	// What is more than 5 in the cell 1 becomes a quarter of it in each step, until it is 2 to the power -22, which is lost.
	wantUntilStill(t, "all balances become 0", g, 0.125, 0, impl.MaxHours, want, 11, impl.OK)
}

func TestStepsUntilStillToNoGround(t *testing.T) {
	const most = impl.MaxSize
	g := welling(t, 0, most/4)
	wantNoneStill(t, "the budget comes first", g, 1, 1, 4, impl.ErrBudget)
	wantNoneStill(t, "no such step", g, 1, 1, 5, impl.ErrState)
	wantNoneStill(t, "no such step, of many", g, 1, 1, impl.MaxHours, impl.ErrState)
	wantNoneStill(t, "no budget", g, most, 1, 0, impl.ErrBudget)
	wantNoneStill(t, "no first step", g, most, 1, 1, impl.ErrState)
	wantUntilStill(t, "no step needed", g, most, most/4, 1, g, 0, impl.OK)
}

func TestStepsUntilStillChecksArguments(t *testing.T) {
	for _, broken := range brokenGrounds(t) {
		for _, most := range append([]int64{0, 5}, wrongHours...) {
			wantNoneStill(t, broken.name, broken.ground, 0.25, 1, most, impl.ErrInvalid)
			wantNoneStill(t, broken.name, broken.ground, notANumber, infinite, most, impl.ErrInvalid)
		}
	}
	for _, g := range []impl.Ground{example(t), allFixed(t), welling(t, impl.MaxSize, 1)} {
		for _, a := range notPlain {
			for _, most := range append([]int64{0, 5}, wrongHours...) {
				wantNoneStill(t, "a wrong part", g, a, 10, most, impl.ErrInvalid)
				wantNoneStill(t, "a wrong small", g, 0.25, a, most, impl.ErrInvalid)
			}
		}
		for _, most := range wrongHours {
			wantNoneStill(t, "a wrong number, but still", g, 0.25, impl.MaxSize, most, impl.ErrRange)
			wantNoneStill(t, "a wrong number", g, 0.25, 0, most, impl.ErrRange)
		}
	}
}

func TestStepsUntilStillOfMany(t *testing.T) {
	codes := map[int64]int{}
	r := rand.New(rand.NewSource(88))
	for i, g := range manyGrounds(300) {
		for range 4 {
			part, small := float32(0.1*r.Float64()), float32(math.Exp2(8*r.Float64()-2))
			if r.Intn(4) == 0 {
				part, small = randomPlain(r), randomPlain(r)
			}
			most := int64(r.Intn(40))
			want, steps, wantedCode := stillOf(g, part, small, most)
			wantUntilStill(t, fmt.Sprint("the ground ", i), g, part, small, most, want, steps, wantedCode)
			codes[wantedCode]++
			if wantedCode == impl.OK && steps > 0 {
				wantUntilStill(t, "just as many steps", g, part, small, steps, want, steps, impl.OK)
				wantNoneStill(t, "a step less", g, part, small, steps-1, impl.ErrBudget)
			}
		}
	}
	wantAllCodes(t, "StepsUntilStill", codes, 100, impl.OK, impl.ErrBudget, impl.ErrState)
}

func TestStepsUntilStillAtMost(t *testing.T) {
	// The cell 9 gains a part of what is missing to 8 in each step, so that its balance becomes less and less.
	g := even(t, 2, 2, 1, 8)
	g.Heads[9] = 0
	g.Fixed = 1 | 1<<1 | 1<<8
	for _, steps := range []int64{1, 2, 7, 60} {
		want, _ := seepsOf(g, 1.0/64, steps)
		small := balanceOf(want, 9)
		wantUntilStill(t, "just within most", g, 1.0/64, small, steps, want, steps, impl.OK)
		wantNoneStill(t, "a step more than most", g, 1.0/64, small, steps-1, impl.ErrBudget)
	}
	want, _ := seepsOf(g, 1.0/4096, impl.MaxHours)
	small := balanceOf(want, 9)
	wantUntilStill(t, "as many as there may be", g, 1.0/4096, small, impl.MaxHours, want, impl.MaxHours, impl.OK)
	wantNoneStill(t, "one more", g, 1.0/4096, justBelow(small), impl.MaxHours, impl.ErrBudget)
}
