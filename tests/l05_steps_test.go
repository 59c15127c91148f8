package tests

import (
	"fmt"
	"math/rand"
	"testing"

	"loop.example/g01288/impl"
)

// behind checks the salt behind steps that have no error.
func behind(t *testing.T, name string, b impl.Brine, step float32, count int64, salt impl.Field) {
	t.Helper()
	if count == 1 {
		after, code := impl.MoveSalt(b, step)
		wantSalt(t, "MoveSalt, "+name, after, code, b, salt)
	}
	after, code := impl.MoveTimes(b, step, count)
	wantSalt(t, fmt.Sprint("MoveTimes ", count, ", ", name), after, code, b, salt)
}

// noneBehind checks the error of steps.
func noneBehind(t *testing.T, name string, b impl.Brine, step float32, count, want int64) {
	t.Helper()
	if count == 1 {
		after, code := impl.MoveSalt(b, step)
		wantBrine(t, "MoveSalt, "+name, after, code, impl.Brine{}, want)
	}
	after, code := impl.MoveTimes(b, step, count)
	wantBrine(t, fmt.Sprint("MoveTimes ", count, ", ", name), after, code, impl.Brine{}, want)
}

func TestMoveSalt(t *testing.T) {
	b := brineExample(t)
	behind(t, "the example", b, 1, 1, impl.Field{1: 2.4, 9: 0.8})
	behind(t, "a half of it", b, 0.5, 1, impl.Field{1: 3.2, 9: 0.4})
	behind(t, "all of the salt", b, 2.5, 1, impl.Field{9: 2})
	behind(t, "two steps", b, 1.25, 2, impl.Field{1: 1, 9: 1.5})
	noneBehind(t, "more than all", b, justAbove(2.5), 1, impl.ErrRange)
	b.Salt[0] = 7
	behind(t, "a fixed cell keeps its salt", b, 1, 1, impl.Field{0: 7, 1: 2.4, 9: 0.8})
	b.Ground.Heads[0] = 4
	behind(t, "a fixed cell gives salt, and keeps it", b, 1, 1, impl.Field{0: 7, 1: plus(times(4, minus(1, 0.2)), 1.4), 8: 2.8, 9: 0.8})
	b.Ground.Gain[0], b.Spring[0] = -impl.MaxSize, 3
	behind(t, "a fixed cell loses as much as it can", b, 1, 1, impl.Field{0: 7, 1: plus(times(4, minus(1, 0.2)), 1.4), 8: 2.8, 9: 0.8})
}

func TestMoveSaltAtOnce(t *testing.T) {
	b := impl.Brine{Ground: even(t, 3, 2, 1, 0), Room: 2}
	b.Ground.Heads = impl.Field{0: 3, 1: 2, 2: 1, 8: 2, 9: 1}
	b.Ground.Fixed = 1 << 10
	b.Salt = impl.Field{0: 8, 1: 16, 8: 32}
	behind(t, "water goes on through cells", b, 1, 1, impl.Field{0: 0, 1: 4, 2: 8, 8: 20, 9: 24})
	b.Salt = impl.Field{10: 8, 9: 16, 2: 32}
	b.Ground.Heads = impl.Field{0: 0, 1: 1, 2: 2, 8: 1, 9: 2, 10: 3}
	behind(t, "water goes back through cells", b, 1, 1, impl.Field{1: 24, 2: 20, 8: 8, 9: 4, 10: 8})
}

func TestMoveSaltOfSprings(t *testing.T) {
	b := filling(t, 5)
	b.Ground.Gain[9], b.Room = 3, 4
	behind(t, "a spring", b, 2, 1, impl.Field{9: 7.5})
	behind(t, "a spring, three times", b, 2, 3, impl.Field{9: 22.5})
	b.Ground.Fixed |= 1 << 9
	behind(t, "a spring in a fixed cell", b, 2, 3, impl.Field{})
	b = draining(t, 2, 8, 4)
	b.Spring[1] = 100
	behind(t, "what is taken away", b, 1, 1, impl.Field{1: 4})
	behind(t, "what is taken away, three times", b, 1, 3, impl.Field{1: 1})
	behind(t, "all", b, 2, 1, impl.Field{})
	noneBehind(t, "more than all", b, justAbove(2), 1, impl.ErrRange)
}

func TestMoveSaltWithoutTime(t *testing.T) {
	b := brineExample(t)
	b.Salt = impl.Field{0: negativeZero, 1: 4, 2: negativeZero, 8: negativeZero, 9: 0}
	// The product of -0 and 1 is -0, and 0 is added to it, or -0.
	behind(t, "a step of 0", b, 0, 1, impl.Field{0: negativeZero, 1: 4, 2: negativeZero})
	behind(t, "a step of -0", b, negativeZero, 1, b.Salt)
	behind(t, "no step", b, 1, 0, b.Salt)
	behind(t, "no step, of 0", b, 0, 0, b.Salt)
	behind(t, "many steps of -0", b, negativeZero, impl.MaxMoves, b.Salt)
	b.Ground.Heads[1] = 0
	behind(t, "no flows", b, impl.MaxSize, 1, impl.Field{0: negativeZero, 1: 4, 2: negativeZero})
	behind(t, "no flows, many times", b, impl.MaxSize, impl.MaxMoves, impl.Field{0: negativeZero, 1: 4, 2: negativeZero})
	b = draining(t, 2, negativeZero, 4)
	behind(t, "-0 of which all goes out", b, 2, 1, impl.Field{})
	b.Salt[8], b.Ground.Gain[8], b.Spring[8] = negativeZero, 1, negativeZero
	behind(t, "-0 that comes in", b, 1, 1, impl.Field{})
}

func TestMoveSaltOfSubnormalNumbers(t *testing.T) {
	for _, c := range []struct{ out, salt, room, step, want float32 }{
		{0.5, least, 1, 1, 0},
		{0.5, least, 1, 0.5, least},
		{0.5, 3 * least, 1, 1, 2 * least},
		{0.5, 5 * least, 1, 1, 2 * least},
		{0.25, least, 1, 1, least},
		{1, least, 1, 1, 0},
		{1, 8 * least, 1, 0.75, 2 * least},
		{least, 4, 1.0 / 1024, impl.MaxSize, 4},
		{1, 4, 1, least, 4},
		{least, least, 1, least, least},
	} {
		behind(t, fmt.Sprint("out ", c), draining(t, c.out, c.salt, c.room), c.step, 1, impl.Field{1: c.want})
	}
	for _, c := range []struct{ spring, room, step, want float32 }{
		{least, 1, 1, least},
		{least, 1, 0.5, 0},
		{least, 1, 0.75, least},
		{least, 2, 1, 0},
		{3 * least, 2, 1, 2 * least},
		{5 * least, 2, 1, 2 * least},
		{least, 0.25, 0.5, 0},
		{3 * least, 0.25, 0.5, 8 * least},
		{least, 5, 3, least},
		{1, 1, least, least},
		{0.5, 1, least, 0},
		{1, impl.MaxSize, least, 0},
	} {
		b := filling(t, c.spring)
		b.Room = c.room
		behind(t, fmt.Sprint("in ", c), b, c.step, 1, impl.Field{9: c.want})
	}
	b := filling(t, least)
	behind(t, "the least number again and again", b, 1, 9, impl.Field{9: 9 * least})
	behind(t, "a half of it again and again", b, 0.5, impl.MaxMoves, impl.Field{})
	b = draining(t, 0.25, 1, 1)
	behind(t, "what is left, three quarters each time, stays twice the least number", b, 1, impl.MaxMoves, impl.Field{1: 2 * least})
	b = draining(t, 0.5, 1, 1)
	behind(t, "what is left, a half each time, is the least number", b, 1, 149, impl.Field{1: least})
	behind(t, "what is left, a half each time, is gone", b, 1, 150, impl.Field{})
}

func TestMoveSaltThatIsTooMuch(t *testing.T) {
	b := filling(t, 524288)
	behind(t, "just not too much", b, 1, 2, impl.Field{9: impl.MaxSize})
	for _, count := range []int64{3, 4, impl.MaxMoves} {
		noneBehind(t, "too much at the third step", b, 1, count, impl.ErrState)
	}
	b.Salt[9] = impl.MaxSize
	noneBehind(t, "too much at the first step", b, 1, 1, impl.ErrState)
	behind(t, "so little that it is lost", b, 1.0/(1<<24), 1, impl.Field{9: impl.MaxSize})
	behind(t, "a half of the last bit, to the even one", b, 1.0/(1<<23), 5, impl.Field{9: impl.MaxSize})
	noneBehind(t, "more than this", b, justAbove(1.0/(1<<23)), 1, impl.ErrState)
	noneBehind(t, "a step that is not plain", b, justAbove(impl.MaxSize), 1, impl.ErrRange)
	b.Ground.Gain[1] = -2
	noneBehind(t, "a step that is not small comes first", b, 1, 1, impl.ErrRange)
	b = filling(t, 524288)
	b.Ground.Fixed, b.Salt[9] = 1<<9, impl.MaxSize
	behind(t, "a fixed cell", b, 1, impl.MaxMoves, impl.Field{9: impl.MaxSize})
}

func TestMoveTimesChecksTheStepAlways(t *testing.T) {
	b := brineExample(t)
	for _, step := range append([]float32{justAbove(2.5), 100, impl.MaxSize}, wrongSteps...) {
		for _, count := range []int64{0, 1, 2, impl.MaxMoves} {
			noneBehind(t, fmt.Sprint("the step ", step), b, step, count, impl.ErrRange)
		}
	}
	for _, count := range wrongMoves {
		for _, step := range []float32{0, 1, 100, notANumber} {
			noneBehind(t, fmt.Sprint("the step ", step), b, step, count, impl.ErrRange)
		}
	}
}

// stepsFor returns steps that are small for a brine, and some that are just not.
func stepsFor(b impl.Brine) []float32 {
	limit := limitOf(b)
	return []float32{limit, limit / 2, limit / 3, times(limit, 0.9), 0, negativeZero, least, 1.5e-39, justAbove(limit), 2 * limit}
}

func TestMovesOfMany(t *testing.T) {
	codes := map[int64]int{}
	for i, b := range randomBrines(400) {
		for _, step := range stepsFor(b) {
			want, wantedCode := movedOf(b, step)
			after, code := impl.MoveSalt(b, step)
			wantBrine(t, fmt.Sprint("MoveSalt of the brine ", i, " by ", step), after, code, want, wantedCode)
			codes[code]++
			for _, count := range []int64{0, 2, 5} {
				want, wantedCode = movesOf(b, step, count)
				after, code = impl.MoveTimes(b, step, count)
				wantBrine(t, fmt.Sprint("MoveTimes of the brine ", i, " by ", step), after, code, want, wantedCode)
			}
		}
	}
	for _, code := range []int64{impl.OK, impl.ErrRange, impl.ErrState} {
		if codes[code] < 50 {
			t.Errorf("only %d steps have the code %d", codes[code], code)
		}
	}
}

func TestMoveTimesAtMost(t *testing.T) {
	r := rand.New(rand.NewSource(62))
	for range 5 {
		b := calmBrine(r)
		b.Ground.Gain = impl.Field{}
		step := limitOf(b) / 2
		want, wantedCode := movesOf(b, step, impl.MaxMoves)
		after, code := impl.MoveTimes(b, step, impl.MaxMoves)
		wantBrine(t, "a thousand steps", after, code, want, wantedCode)
	}
}

func wantUntil(t *testing.T, name string, b impl.Brine, step float32, cell int64, level float32, most, want, wantedCode int64) {
	t.Helper()
	steps, code := impl.StepsUntil(b, step, cell, level, most)
	wantCount(t, fmt.Sprint("StepsUntil, ", name), steps, code, want, wantedCode)
}

func TestStepsUntil(t *testing.T) {
	b := brineExample(t)
	wantUntil(t, "the example", b, 1, 9, 0.5, 10, 1, impl.OK)
	wantUntil(t, "just as much", b, 1, 9, divided(8, 10), 10, 1, impl.OK)
	wantUntil(t, "a little more", b, 1, 9, justAbove(divided(8, 10)), 10, 2, impl.OK)
	wantUntil(t, "never so much", b, 1, 9, 2.5, impl.MaxMoves, 0, impl.ErrBudget)
	wantUntil(t, "there already", b, 1, 1, 4, 10, 0, impl.OK)
	wantUntil(t, "there already, without a step", b, 1, 1, 4, 0, 0, impl.OK)
	wantUntil(t, "not there, and less each time", b, 1, 1, justAbove(4), 10, 0, impl.ErrBudget)
	wantUntil(t, "not there, and no step", b, 1, 9, 0.5, 0, 0, impl.ErrBudget)
	for _, level := range []float32{0, negativeZero, -least, -1, -impl.MaxSize} {
		wantUntil(t, fmt.Sprint("the level ", level), b, 1, 9, level, 0, 0, impl.OK)
	}
	b.Salt[9] = negativeZero
	wantUntil(t, "-0, which is 0", b, 1, 9, 0, 0, 0, impl.OK)
	wantUntil(t, "more than -0", b, 1, 9, least, 5, 1, impl.OK)
	wantUntil(t, "a fixed cell that has it", b, 1, 0, 0, 5, 0, impl.OK)
	wantUntil(t, "a fixed cell that never has it", b, 1, 0, 1, impl.MaxMoves, 0, impl.ErrBudget)
	wantUntil(t, "a step of 0", b, 0, 9, 1, impl.MaxMoves, 0, impl.ErrBudget)
}

func TestStepsUntilWithinMost(t *testing.T) {
	b := filling(t, 1)
	for _, n := range []int64{1, 2, 7, impl.MaxMoves - 1, impl.MaxMoves} {
		level := float32(n)
		wantUntil(t, "just within most", b, 1, 9, level, n, n, impl.OK)
		wantUntil(t, "within most", b, 1, 9, level, impl.MaxMoves, n, impl.OK)
		wantUntil(t, "a step more than most", b, 1, 9, level, n-1, 0, impl.ErrBudget)
		wantUntil(t, "a little more than most", b, 1, 9, justAbove(level), n, 0, impl.ErrBudget)
		wantUntil(t, "for the first time", b, 1, 9, level-0.5, n, n, impl.OK)
	}
	b = filling(t, least)
	wantUntil(t, "subnormal numbers", b, 1, 9, 300*least, impl.MaxMoves, 300, impl.OK)
	wantUntil(t, "a half of the least number", b, 0.5, 9, least, impl.MaxMoves, 0, impl.ErrBudget)
}

func TestStepsUntilThereIsTooMuch(t *testing.T) {
	b := filling(t, 400000)
	wantUntil(t, "ahead of the step with too much", b, 1, 9, 800000, impl.MaxMoves, 2, impl.OK)
	wantUntil(t, "no step with too much is made", b, 1, 9, 800001, 2, 0, impl.ErrBudget)
	wantUntil(t, "the step with too much", b, 1, 9, 800001, 3, 0, impl.ErrState)
	wantUntil(t, "the step with too much, of many", b, 1, 9, impl.MaxSize, impl.MaxMoves, 0, impl.ErrState)
	wantUntil(t, "too much in another cell", b, 1, 8, 1, impl.MaxMoves, 0, impl.ErrState)
	wantUntil(t, "too much in another cell, later", b, 1, 8, 1, 2, 0, impl.ErrBudget)
	wantUntil(t, "too much, but there already", b, 1, 8, 0, impl.MaxMoves, 0, impl.OK)
}

func TestStepsUntilChecksRanges(t *testing.T) {
	b := brineExample(t)
	for _, step := range append([]float32{justAbove(2.5), impl.MaxSize}, wrongSteps...) {
		wantUntil(t, "a wrong step, but there already", b, step, 1, 4, 10, 0, impl.ErrRange)
		wantUntil(t, "a wrong step, and none to be made", b, step, 9, 1, 0, 0, impl.ErrRange)
	}
	for _, level := range notPlain {
		wantUntil(t, "a wrong level", b, 1, 9, level, 10, 0, impl.ErrRange)
		wantUntil(t, "a wrong level, and no step", b, 1, 9, level, 0, 0, impl.ErrRange)
	}
	for _, most := range wrongMoves {
		wantUntil(t, "a wrong most, but there already", b, 1, 1, 4, most, 0, impl.ErrRange)
	}
	for _, cell := range append([]int64{2, 10}, wrongCells...) {
		wantUntil(t, "a wrong cell", b, 1, cell, 0, 10, 0, impl.ErrRange)
	}
}

func TestStepsUntilOfMany(t *testing.T) {
	codes := map[int64]int{}
	r := rand.New(rand.NewSource(63))
	for _, b := range randomBrines(300) {
		cells := cellsOf(b.Ground)
		cell := cells[r.Intn(len(cells))]
		for _, step := range stepsFor(b)[:6] {
			goal, code := movesOf(b, step, int64(r.Intn(5)))
			if code != impl.OK {
				goal = b
			}
			for _, level := range []float32{goal.Salt[cell], min(justAbove(goal.Salt[cell]), impl.MaxSize), 20} {
				most := int64(r.Intn(6))
				want, wantedCode := untilOf(b, step, cell, level, most)
				wantUntil(t, "some brine", b, step, cell, level, most, want, wantedCode)
				codes[wantedCode]++
			}
		}
	}
	for _, code := range []int64{impl.OK, impl.ErrState, impl.ErrBudget} {
		if codes[code] < 50 {
			t.Errorf("only %d brines have the code %d", codes[code], code)
		}
	}
}
