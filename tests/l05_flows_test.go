package tests

import (
	"fmt"
	"math"
	"testing"

	"loop.example/g01288/impl"
)

// inOrder are four numbers whose sum depends on their order, greatTerm being so great that it loses a single small one.
type inOrder struct {
	name string
	list [4]float32
	want float32
}

const (
	greatTerm = 1 << 20
	smallTerm = 1.0 / 16
)

var sumsInOrder = []inOrder{
	{"north and east ahead of south", [4]float32{smallTerm, smallTerm, greatTerm, 0}, greatTerm + 2*smallTerm},
	{"east and south ahead of west", [4]float32{0, smallTerm, smallTerm, greatTerm}, greatTerm + 2*smallTerm},
	{"north and south ahead of west", [4]float32{smallTerm, 0, smallTerm, greatTerm}, greatTerm + 2*smallTerm},
	{"west behind south", [4]float32{smallTerm, 0, greatTerm, smallTerm}, greatTerm},
	{"south and west behind north", [4]float32{greatTerm, 0, smallTerm, smallTerm}, greatTerm},
	{"south and west behind east", [4]float32{0, greatTerm, smallTerm, smallTerm}, greatTerm},
	{"all ahead of west", [4]float32{smallTerm, smallTerm, smallTerm, greatTerm}, greatTerm + 4*smallTerm},
}

// opposite returns flows in the other direction.
func opposite(flows [4]float32) [4]float32 {
	for i := range flows {
		flows[i] = -flows[i]
	}
	return flows
}

func wantOut(t *testing.T, name string, b impl.Brine, cell int64, want float32) {
	t.Helper()
	out, code := impl.GoesOut(b, cell)
	wantResult(t, fmt.Sprint(name, ": goes out of ", cell), out, code, want, impl.OK)
}

func wantIn(t *testing.T, name string, b impl.Brine, cell int64, want float32) {
	t.Helper()
	in, code := impl.ComesIn(b, cell)
	wantResult(t, fmt.Sprint(name, ": comes into ", cell), in, code, want, impl.OK)
}

func TestGoesOut(t *testing.T) {
	b := brineExample(t)
	for cell, want := range map[int64]float32{0: 0, 1: 4, 8: 0, 9: 0} {
		wantOut(t, "the example", b, cell, want)
	}
	b.Ground.Heads[0], b.Ground.Heads[1] = 3, -1
	wantOut(t, "a fixed cell", b, 0, 7)
	wantOut(t, "a cell into which all flows", b, 1, 0)
	for _, c := range []struct{ gain, want float32 }{
		{-3, 10}, {0, 7}, {negativeZero, 7}, {3, 7}, {-impl.MaxSize, 1048583}, {impl.MaxSize, 7}, {-least, 7},
	} {
		b = amid(t, c.gain, [4]float32{1, 2, 4, -8}, [4]float32{})
		wantOut(t, fmt.Sprint("the gain ", c.gain), b, 9, c.want)
		b = amid(t, c.gain, [4]float32{-8, 4, 1, 2}, [4]float32{})
		wantOut(t, fmt.Sprint("other sides, with the gain ", c.gain), b, 9, c.want)
		b = amid(t, c.gain, [4]float32{-8, 0, negativeZero, -2}, [4]float32{})
		wantOut(t, fmt.Sprint("the gain alone: ", c.gain), b, 9, max(0, -c.gain))
	}
	wantOut(t, "nothing", amid(t, 0, [4]float32{}, [4]float32{1, 1, 1, 1}), 9, 0)
	wantOut(t, "the gain -0 alone", amid(t, negativeZero, [4]float32{}, [4]float32{}), 9, 0)
	wantOut(t, "subnormal flows", amid(t, -least, [4]float32{least, 2 * least, -least, 4 * least}, [4]float32{}), 9, 8*least)
}

func TestGoesOutInOrder(t *testing.T) {
	for _, c := range sumsInOrder {
		wantOut(t, c.name, amid(t, 5, c.list, [4]float32{}), 9, c.want)
	}
	wantOut(t, "the gain behind all", amid(t, -greatTerm, [4]float32{smallTerm, 0, smallTerm, 0}, [4]float32{}), 9, greatTerm+2*smallTerm)
	wantOut(t, "the gain behind west", amid(t, -greatTerm, [4]float32{0, 0, smallTerm, smallTerm}, [4]float32{}), 9, greatTerm+2*smallTerm)
	wantOut(t, "the gain ahead of nothing", amid(t, -smallTerm, [4]float32{0, 0, 0, greatTerm}, [4]float32{}), 9, greatTerm)
}

func TestComesIn(t *testing.T) {
	b := brineExample(t)
	for cell, want := range map[int64]float32{0: 8, 1: 0, 8: 0, 9: 8} {
		wantIn(t, "the example", b, cell, want)
	}
	salt := [4]float32{10, 100, 1000, 10000}
	for _, c := range []struct{ gain, want float32 }{
		{-3, 84010}, {0, 84010}, {negativeZero, 84010}, {3, 84031}, {-impl.MaxSize, 84010}, {impl.MaxSize, 7424042}, {least, 84010},
	} {
		b = amid(t, c.gain, [4]float32{-1, 2, -4, -8}, salt)
		b.Spring[9] = 7
		wantIn(t, fmt.Sprint("the gain ", c.gain), b, 9, c.want)
	}
	b = amid(t, 3, [4]float32{1, -2, 0, negativeZero}, salt)
	wantIn(t, "the east alone, and a spring without salt", b, 9, 200)
	b.Spring[9] = negativeZero
	b.Salt[10] = negativeZero
	wantIn(t, "a spring and salt of -0", b, 9, 0)
	b.Ground.Gain[9] = negativeZero
	b.Spring[9] = 5
	wantIn(t, "the gain -0", b, 9, 0)
	wantIn(t, "nothing", filling(t, 5), 8, 0)
	wantIn(t, "a spring alone", filling(t, 5), 9, 5)
	b = brineExample(t)
	b.Ground.Fixed = 1 << 9
	b.Ground.Gain[9], b.Spring[9] = 2, 3
	wantIn(t, "a fixed cell", b, 9, 14)
}

func TestComesInInOrder(t *testing.T) {
	toMiddle := [4]float32{-1, -1, -1, -1}
	for _, c := range sumsInOrder {
		wantIn(t, c.name, amid(t, -5, toMiddle, c.list), 9, c.want)
		b := amid(t, 0, opposite(c.list), [4]float32{1, 1, 1, 1})
		wantIn(t, c.name+", by flows", b, 9, c.want)
	}
	b := amid(t, 1, toMiddle, [4]float32{smallTerm, 0, 0, smallTerm})
	b.Spring[9] = greatTerm
	wantIn(t, "the spring behind all", b, 9, greatTerm+2*smallTerm)
	// The product is rounded ahead of the sum, which would be greater otherwise.
	const a = 1 + 1.0/4096
	b = amid(t, 0, [4]float32{-1, -a, 0, 0}, [4]float32{1.0 / (1 << 24), a})
	wantIn(t, "a product that is rounded first", b, 9, 1+1.0/2048)
	b = amid(t, a, [4]float32{-1, 0, 0, 0}, [4]float32{1.0 / (1 << 24)})
	b.Spring[9] = a
	wantIn(t, "a product of the spring that is rounded first", b, 9, 1+1.0/2048)
}

func TestComesInOfSubnormalNumbers(t *testing.T) {
	for _, c := range []struct{ flow, salt, want float32 }{
		{least, 1, least},
		{least, 0.5, 0},
		{least, justAbove(0.5), least},
		{least, 0.75, least},
		{3 * least, 0.5, 2 * least},
		{5 * least, 0.5, 2 * least},
		{7 * least, 0.5, 4 * least},
		{0.5, least, 0},
		{0.75, least, least},
		{1.5, least, 2 * least},
		{impl.MaxSize, least, impl.MaxSize * least},
		{least, impl.MaxSize, impl.MaxSize * least},
		{least, least, 0},
		{3e-20, 3e-20, times(3e-20, 3e-20)},
		{1e-38, 0.3, times(1e-38, 0.3)},
	} {
		b := amid(t, 0, [4]float32{0, 0, 0, -c.flow}, [4]float32{0, 0, 0, c.salt})
		wantIn(t, fmt.Sprint("from the west ", c.flow, " with the salt ", c.salt), b, 9, c.want)
		b = filling(t, c.salt)
		b.Ground.Gain[9] = c.flow
		wantIn(t, fmt.Sprint("from the spring ", c.flow, " with the salt ", c.salt), b, 9, c.want)
	}
	// Each product is rounded, and not their sum.
	b := amid(t, 0, [4]float32{-least, -least, -least, -least}, [4]float32{0.5, 0.5, 0.5, 0.5})
	wantIn(t, "four halves of the least number", b, 9, 0)
	b = amid(t, 0, [4]float32{-least, -least, -least, -least}, [4]float32{0.75, 0.75, 0.25, 0.75})
	wantIn(t, "parts of the least number", b, 9, 3*least)
	// A joint that is subnormal loses bits, too: 2 * (3 * the least number) over 4 is 1.5 times this one.
	b = brineExample(t)
	b.Ground.Conduct[1], b.Ground.Conduct[0] = least, 3
	wantIn(t, "a subnormal joint", b, 0, times(times(divided(times(2, times(3, least)), 3), 2), 4))
}

func TestFlowsOfMany(t *testing.T) {
	for _, b := range randomBrines(500) {
		for _, cell := range cellsOf(b.Ground) {
			wantOut(t, "some brine", b, cell, outOf(b, cell))
			wantIn(t, "some brine", b, cell, inOf(b, cell))
		}
	}
}

func wantSafe(t *testing.T, name string, b impl.Brine, want float32, wantedCode int64) {
	t.Helper()
	step, code := impl.SafeStep(b)
	wantResult(t, name, step, code, want, wantedCode)
}

func TestSafeStep(t *testing.T) {
	b := brineExample(t)
	wantSafe(t, "the example", b, 1.25, impl.OK)
	b.Ground.Heads[9] = 3
	wantSafe(t, "the last cell", b, 1.25, impl.OK)
	b.Ground.Heads[9] = 4
	wantSafe(t, "another cell", b, 10.0/12, impl.OK)
	b.Ground.Fixed = 1 << 9
	wantSafe(t, "the one that loses most fixed", b, 2.5, impl.OK)
	b.Ground.Gain[8] = -1
	wantSafe(t, "a gain less than 0", b, 2.5, impl.OK)
	b.Ground.Gain[8] = -3
	wantSafe(t, "a gain far less than 0", b, 10.0/6, impl.OK)
	b.Ground.Gain[8] = 3
	wantSafe(t, "a gain greater than 0", b, 2.5, impl.OK)
}

func TestSafeStepOfNone(t *testing.T) {
	b := brineExample(t)
	b.Ground.Heads[1] = 0
	wantSafe(t, "still water", b, 0, impl.ErrNotFound)
	b.Ground.Gain = impl.Field{0: -1, 1: negativeZero, 8: 0, 9: 1}
	wantSafe(t, "gains of 0 and more, and a fixed cell", b, 0, impl.ErrNotFound)
	b.Ground.Heads[0] = 1
	b.Ground.Conduct = impl.Field{0: 1, 1: 1}
	wantSafe(t, "a fixed cell alone loses", b, 0, impl.ErrNotFound)
	b = brineExample(t)
	b.Ground.Fixed = 1 | 1<<1 | 1<<8 | 1<<9
	wantSafe(t, "all cells fixed", b, 0, impl.ErrNotFound)
	wantSafe(t, "no flows", filling(t, 5), 0, impl.ErrNotFound)
}

func TestSafeStepThatIsNotPlain(t *testing.T) {
	const out = 0.5 / impl.MaxSize
	wantSafe(t, "the greatest step", draining(t, out, 1, 1), impl.MaxSize, impl.OK)
	wantSafe(t, "nearly the greatest step", draining(t, justAbove(out), 1, 1), divided(1, 2*justAbove(out)), impl.OK)
	wantSafe(t, "a step that is too great", draining(t, justBelow(out), 1, 1), 0, impl.ErrState)
	wantSafe(t, "a step that is too great for the room", draining(t, out, 1, justAbove(1)), 0, impl.ErrState)
	wantSafe(t, "a step that is infinite", draining(t, least, 1, 1), 0, impl.ErrState)
	wantSafe(t, "a step that is infinite for all rooms", draining(t, 3*least, 1, 1.0/1024), 0, impl.ErrState)
	wantSafe(t, "the least step", draining(t, impl.MaxSize, 1, 1.0/1024), 1.0/(1<<31), impl.OK)
	b := draining(t, least, 1, 1)
	b.Ground.Gain[9] = -0.25
	wantSafe(t, "a step that is too great for one cell, not for the least one", b, 2, impl.OK)
	b.Ground.Gain[8] = -2 * least
	wantSafe(t, "a step that is too great for two cells", b, 2, impl.OK)
	b.Ground.Fixed |= 1 << 9
	wantSafe(t, "a step that is too great for all that are not fixed", b, 0, impl.ErrState)
}

func TestSafeStepOfMany(t *testing.T) {
	codes := map[int64]int{}
	for _, b := range randomBrines(1500) {
		want, wantedCode := safeOf(b)
		wantSafe(t, "some brine", b, want, wantedCode)
		codes[wantedCode]++
	}
	for _, code := range []int64{impl.OK, impl.ErrState} {
		if codes[code] < 10 {
			t.Errorf("only %d brines have the code %d", codes[code], code)
		}
	}
}

func TestIsSmallStep(t *testing.T) {
	b := brineExample(t)
	for _, step := range []float32{0, negativeZero, least, 1, justBelow(2.5), 2.5} {
		wantSmall(t, "the example", b, step, true)
	}
	for _, step := range append([]float32{justAbove(2.5), 2.625, 10, impl.MaxSize}, wrongSteps...) {
		wantSmall(t, "the example", b, step, false)
	}
	for _, still := range []impl.Brine{filling(t, 5), {Ground: even(t, 3, 4, 1, 7), Room: 1.0 / 1024}} {
		for _, step := range []float32{0, negativeZero, least, 1, impl.MaxSize} {
			wantSmall(t, "cells out of which nothing goes", still, step, true)
		}
		for _, step := range wrongSteps {
			wantSmall(t, "cells out of which nothing goes", still, step, false)
		}
	}
	b.Ground.Fixed = 1 << 1
	wantSmall(t, "a fixed cell that loses more than all", b, impl.MaxSize, true)
	b.Ground.Gain[9] = -5
	wantSmall(t, "the last cell loses all", b, 2, true)
	wantSmall(t, "the last cell loses more than all", b, justAbove(2), false)
}

func TestIsSmallStepIsRounded(t *testing.T) {
	const out = 1.0 / impl.MaxSize
	wantSmall(t, "the greatest step", draining(t, out, 1, 1), impl.MaxSize, true)
	wantSmall(t, "the greatest step, and a part just less than 1", draining(t, justBelow(out), 1, 1), impl.MaxSize, true)
	wantSmall(t, "the greatest step, and a part just greater than 1", draining(t, justAbove(out), 1, 1), impl.MaxSize, false)
	wantSmall(t, "the greatest step, and too small a room", draining(t, out, 1, justBelow(1)), impl.MaxSize, false)
	// The product of both is rounded to the room; in full it is greater.
	const a = 1 + 1.0/4096
	wantSmall(t, "a product that is rounded down", draining(t, a, 1, 1+1.0/2048), a, true)
	wantSmall(t, "a product that is rounded down, and a smaller room", draining(t, a, 1, justBelow(1+1.0/2048)), a, false)
	wantSmall(t, "subnormal numbers", draining(t, least, 1, 1.0/1024), impl.MaxSize, true)
}

// limitOf returns the greatest step that is small.
func limitOf(b impl.Brine) float32 {
	low, high := uint32(0), math.Float32bits(impl.MaxSize)
	for low < high {
		middle := (low + high + 1) / 2
		if isSmall(b, math.Float32frombits(middle)) {
			low = middle
		} else {
			high = middle - 1
		}
	}
	return math.Float32frombits(low)
}

func TestIsSmallStepOfMany(t *testing.T) {
	inside := 0
	for _, b := range randomBrines(300) {
		limit := limitOf(b)
		wantSmall(t, "just small", b, limit, true)
		wantSmall(t, "just not", b, justAbove(limit), false)
		wantSmall(t, "half of it", b, limit/2, true)
		if limit < impl.MaxSize {
			inside++
		}
		if safe, code := impl.SafeStep(b); code == impl.OK {
			wantSmall(t, "the safe step", b, safe, true)
		}
	}
	if inside < 100 {
		t.Errorf("only %d brines have steps that are not small", inside)
	}
}
