package tests

import (
	"testing"

	"loop.example/g01288/impl"
)

// checkSweeps compares all sweeps of a ground with what they are told to be, and counts their codes.
func checkSweeps(t *testing.T, g impl.Ground, codes map[int64]int) {
	t.Helper()
	after, change, code := impl.StepAtOnce(g)
	wantSweep(t, "StepAtOnce", after, change, code, stepOf(g))
	codes[code]++
	after, change, code = impl.SweepInOrder(g)
	wantSweep(t, "SweepInOrder", after, change, code, inOrderOf(g))
	codes[code]++
	for colour := range int64(2) {
		after, change, code = impl.SweepColour(g, colour)
		wantSweep(t, "SweepColour", after, change, code, colourOf(g, colour))
	}
	after, change, code = impl.SweepBoth(g)
	wantSweep(t, "SweepBoth", after, change, code, bothOf(g))
	codes[code]++
	for _, share := range []float32{0, negativeZero, least, 1e-6, 0.3, 1, 1.7, 2} {
		after, change, code = impl.RelaxedSweep(g, share)
		wantSweep(t, "RelaxedSweep", after, change, code, relaxedOf(g, share))
		codes[code]++
	}
}

func TestSweepsOfCalmGrounds(t *testing.T) {
	codes := map[int64]int{}
	for _, g := range calmGrounds(200) {
		checkSweeps(t, g, codes)
	}
	if codes[impl.OK] < 2000 {
		t.Errorf("too few sweeps: %v", codes)
	}
}

func TestSweepsOfManyGrounds(t *testing.T) {
	codes := map[int64]int{}
	for _, g := range randomGrounds(300) {
		checkSweeps(t, g, codes)
	}
	if codes[impl.OK] < 200 || codes[impl.ErrState] < 200 {
		t.Errorf("these grounds are too much alike: %v", codes)
	}
}

// line is a ground whose upper row has the heads 0, 4 and 8, between which the cells of the lower row are dry.
func line(t *testing.T) impl.Ground {
	t.Helper()
	g := even(t, 3, 2, 1, 0)
	g.Conduct[8], g.Conduct[9], g.Conduct[10] = 0, 0, 0
	g.Heads[1], g.Heads[2] = 4, 8
	return g
}

// wantHeads checks the heads of the first row, and the greatest change.
func wantHeads(t *testing.T, name string, g impl.Ground, change float32, code int64, heads [3]float32, wantedChange float32) {
	t.Helper()
	wantResult(t, name+", greatest change", change, code, wantedChange, impl.OK)
	for cell, want := range heads {
		wantNumber(t, name, g.Heads[cell], want)
	}
}

func TestWhatIsReplacedAtOnce(t *testing.T) {
	g := line(t)
	g.Heads[1] = 6
	after, change, code := impl.StepAtOnce(g)
	wantHeads(t, "from the heads that were there", after, change, code, [3]float32{0, 4, 6}, 2)
	after, change, code = impl.SweepInOrder(g)
	wantHeads(t, "from the heads that are there", after, change, code, [3]float32{0, 4, 4}, 4)
	after, change, code = impl.SweepColour(g, 0)
	wantHeads(t, "the even cells", after, change, code, [3]float32{0, 6, 6}, 2)
	after, change, code = impl.SweepColour(g, 1)
	wantHeads(t, "the odd cells", after, change, code, [3]float32{0, 4, 8}, 2)
	after, change, code = impl.SweepBoth(g)
	wantHeads(t, "the even cells and then the odd ones", after, change, code, [3]float32{0, 3, 6}, 3)
	after, change, code = impl.RelaxedSweep(g, 0.5)
	wantHeads(t, "half the way", after, change, code, [3]float32{0, 5, 6.5}, 1.5)
	after, change, code = impl.RelaxedSweep(g, 2)
	wantHeads(t, "twice the way", after, change, code, [3]float32{0, 2, -4}, 12)
	g.Fixed = 4
	after, change, code = impl.SweepInOrder(g)
	wantHeads(t, "the last one is fixed", after, change, code, [3]float32{6, 7, 8}, 6)
}

func TestGreatestChangeOfSweepIsASize(t *testing.T) {
	g := line(t)
	g.Heads[1] = -9
	after, change, code := impl.SweepColour(g, 1)
	wantHeads(t, "upwards", after, change, code, [3]float32{0, 4, 8}, 13)
	g.Heads[1] = 9
	after, change, code = impl.SweepColour(g, 1)
	wantHeads(t, "downwards", after, change, code, [3]float32{0, 4, 8}, 5)
	after, change, code = impl.SweepColour(line(t), 1)
	wantHeads(t, "no change", after, change, code, [3]float32{0, 4, 8}, 0)
}

func TestGreatestChangeOfSweepBoth(t *testing.T) {
	g := line(t)
	g.Heads[1], g.Heads[2] = 1, 10
	after, change, code := impl.SweepBoth(g)
	wantHeads(t, "the first one is greater", after, change, code, [3]float32{0, 0.5, 1}, 9)
	g.Heads[1], g.Heads[2] = 100, 98
	after, change, code = impl.SweepBoth(g)
	wantHeads(t, "the second one is greater", after, change, code, [3]float32{0, 50, 100}, 50)
	g.Heads[1], g.Heads[2] = 4, 2
	after, change, code = impl.SweepBoth(g)
	wantHeads(t, "both are equal", after, change, code, [3]float32{0, 2, 4}, 2)
}

func TestSweepsToNegativeZero(t *testing.T) {
	g := even(t, 2, 2, 1, 0)
	for _, cell := range cellsOf(g) {
		g.Gain[cell] = negativeZero
	}
	g.Heads[1], g.Heads[8] = negativeZero, negativeZero
	g.Fixed = 1 | 1<<1 | 1<<8
	after, change, code := impl.StepAtOnce(g)
	wantResult(t, "the size of -0 is 0", change, code, 0, impl.OK)
	wantNumber(t, "0 becomes -0", after.Heads[9], negativeZero)
	after, change, code = impl.SweepInOrder(g)
	wantResult(t, "the size of -0 in order", change, code, 0, impl.OK)
	wantNumber(t, "0 becomes -0 in order", after.Heads[9], negativeZero)
	after, change, code = impl.RelaxedSweep(g, 1)
	wantResult(t, "the size of 0", change, code, 0, impl.OK)
	wantNumber(t, "0 and -0 are 0", after.Heads[9], 0)
	g.Heads[9] = negativeZero
	after, _, _ = impl.RelaxedSweep(g, 1)
	wantNumber(t, "-0 and 0 are 0", after.Heads[9], 0)
	after, _, _ = impl.RelaxedSweep(g, negativeZero)
	wantNumber(t, "-0 and -0 are -0", after.Heads[9], negativeZero)
}

func TestSweepsAtTheGreatestSize(t *testing.T) {
	g := rising(t, impl.MaxSize)
	g.Heads[1], g.Heads[8] = impl.MaxSize/2, impl.MaxSize/2
	g.Fixed |= 1<<1 | 1<<8
	want := g
	want.Heads[9] = impl.MaxSize
	for name, sweep := range sweeps {
		after, change, code := sweep(g)
		wantSweep(t, name+" to the greatest size", after, change, code, sweepResult{want, impl.MaxSize, impl.OK})
	}
	g.Heads[1] = impl.MaxSize/2 + 0.5
	for name, sweep := range sweeps {
		after, change, code := sweep(g)
		wantSweep(t, name+" to more", after, change, code, sweepResult{code: impl.ErrState})
	}
	// The settled head itself need not be plain.
	after, change, code := impl.RelaxedSweep(g, 0.5)
	want = g
	want.Heads[9] = impl.MaxSize/2 + 0.125
	wantSweep(t, "half the way to more", after, change, code, sweepResult{want, impl.MaxSize/2 + 0.125, impl.OK})
}

// sweeps are those that reach all cells that are not fixed.
var sweeps = map[string]func(impl.Ground) (impl.Ground, float32, int64){
	"StepAtOnce":   impl.StepAtOnce,
	"SweepInOrder": impl.SweepInOrder,
	"SweepBoth":    impl.SweepBoth,
	"RelaxedSweep": func(g impl.Ground) (impl.Ground, float32, int64) { return impl.RelaxedSweep(g, 1) },
}

func TestSweepsToNoGround(t *testing.T) {
	for _, gain := range []float32{1, -1} {
		g := bursting(t)
		g.Gain[1] = gain
		for name, sweep := range sweeps {
			after, change, code := sweep(g)
			wantSweep(t, name+" to an infinite head", after, change, code, sweepResult{code: impl.ErrState})
		}
		after, change, code := impl.SweepColour(g, 1)
		wantSweep(t, "the colour of the cell", after, change, code, sweepResult{code: impl.ErrState})
		after, change, code = impl.SweepColour(g, 0)
		wantSweep(t, "the other colour", after, change, code, sweepResult{g, 0, impl.OK})
		after, change, code = impl.RelaxedSweep(g, 0)
		wantSweep(t, "0 times an infinite head", after, change, code, sweepResult{code: impl.ErrState})
		g.Fixed = 2
		for name, sweep := range sweeps {
			after, change, code := sweep(g)
			wantSweep(t, name+" of a fixed cell", after, change, code, sweepResult{g, 0, impl.OK})
		}
	}
}

func TestSweepColours(t *testing.T) {
	g := example(t)
	for _, colour := range []int64{-1, 2, 3, 1 << 32, -1 << 63, 1<<63 - 1} {
		after, change, code := impl.SweepColour(g, colour)
		wantSweep(t, "no colour", after, change, code, sweepResult{code: impl.ErrRange})
		after, change, code = impl.SweepColour(bursting(t), colour)
		wantSweep(t, "no colour of a ground that bursts", after, change, code, sweepResult{code: impl.ErrRange})
	}
	// On an even ground the heads tell the colours.
	board := even(t, 8, 8, 1, 0)
	board.Fixed = 1<<1 | 1<<8
	for _, cell := range cellsOf(board) {
		board.Heads[cell] = float32((cell%8 + cell/8) % 2)
	}
	want := board
	for _, cell := range cellsOf(board) {
		want.Heads[cell] = 1
	}
	after, change, code := impl.SweepColour(board, 0)
	wantSweep(t, "the colour 0", after, change, code, sweepResult{want, 1, impl.OK})
	for _, cell := range cellsOf(board) {
		want.Heads[cell] = 0
	}
	want.Heads[1], want.Heads[8] = 1, 1
	after, change, code = impl.SweepColour(board, 1)
	wantSweep(t, "the colour 1, some of it fixed", after, change, code, sweepResult{want, 1, impl.OK})
}

func TestRelaxedSweepShares(t *testing.T) {
	for _, g := range []impl.Ground{example(t), bursting(t)} {
		for _, share := range []float32{-least, -1, justAbove(2), 3, infinite, -infinite, notANumber} {
			after, change, code := impl.RelaxedSweep(g, share)
			wantSweep(t, "no share", after, change, code, sweepResult{code: impl.ErrRange})
		}
	}
	g := example(t)
	for _, share := range []float32{0, negativeZero} {
		after, change, code := impl.RelaxedSweep(g, share)
		wantSweep(t, "nothing of the way", after, change, code, sweepResult{g, 0, impl.OK})
	}
	in, inChange, _ := impl.SweepInOrder(g)
	after, change, code := impl.RelaxedSweep(g, 1)
	wantSweep(t, "all of the way", after, change, code, sweepResult{in, inChange, impl.OK})
}

func TestRelaxedSweepChangeIsThatOfTheHead(t *testing.T) {
	next := justAbove(1)
	g := even(t, 2, 2, 1, 1)
	g.Heads[1], g.Heads[8] = next, next
	g.Fixed = 1 | 1<<1 | 1<<8
	after, change, code := impl.RelaxedSweep(g, 0.25)
	wantSweep(t, "a way that is lost beside the head", after, change, code, sweepResult{g, 0, impl.OK})
	want := g
	want.Heads[9] = next
	after, change, code = impl.RelaxedSweep(g, 0.75)
	wantSweep(t, "a way that is rounded beside the head", after, change, code, sweepResult{want, next - 1, impl.OK})
}
