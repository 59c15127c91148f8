package tests

import (
	"testing"

	"loop.example/g01288/impl"
)

func TestSettlingExample(t *testing.T) {
	g := example(t)
	for cell, want := range map[int64]float32{0: 5, 1: 5, 2: 5.5, 9: divided(32, 6)} {
		head, code := impl.SettledHead(g, cell)
		wantResult(t, "settled head", head, code, want, impl.OK)
	}
	_, change, code := impl.StepAtOnce(g)
	wantResult(t, "greatest change", change, code, 1, impl.OK)
	wantPath(t, "from the cell 1", g, 1, 1, 2)
	still, _, code := impl.SettleGround(g, 0.001, impl.MaxSweeps)
	wantCode(t, "SettleGround", code, impl.OK)
	for _, cell := range cellsOf(g) {
		if head := still.Heads[cell]; head < 4.99 || head > 5.01 {
			t.Errorf("the head of the cell %d settles at %v", cell, head)
		}
	}
}

func TestSettledHeadOfMany(t *testing.T) {
	codes := map[int64]int{}
	for _, g := range manyGrounds(300) {
		for _, cell := range cellsOf(g) {
			want, wantedCode := settledOf(g, cell), int64(impl.OK)
			if want-want != 0 {
				want, wantedCode = 0, impl.ErrState
			}
			head, code := impl.SettledHead(g, cell)
			wantResult(t, "SettledHead", head, code, want, wantedCode)
			codes[code]++
		}
	}
	if codes[impl.OK] < 10000 || codes[impl.ErrState] < 50 {
		t.Errorf("these grounds are too much alike: %v", codes)
	}
}

func TestSettledHeadSumsInOrder(t *testing.T) {
	// Beside the great head the small one is lost.
	const great, small = 1 << 20, 1.0 / (1 << 5)
	for _, c := range []struct {
		name  string
		gain  float32
		heads [4]float32
		want  float32
	}{
		{"the gain comes first", small, [4]float32{great, -great, 0, 0}, 0},
		{"north, then east", 0, [4]float32{small, great, -great, 0}, 0},
		{"east behind north and ahead of south", 0, [4]float32{great, small, -great, 0}, 0},
		{"south behind east", 0, [4]float32{great, -great, small, 0}, small / 4},
		{"south ahead of west", 0, [4]float32{0, great, small, -great}, 0},
		{"west is the last", 0, [4]float32{great, 0, -great, small}, small / 4},
		{"the gain is added", 2, [4]float32{1, 2, 3, 4}, 3},
	} {
		head, code := impl.SettledHead(around(t, c.gain, c.heads), 9)
		wantResult(t, c.name, head, code, c.want, impl.OK)
	}
}

func TestSettledHeadJointsInOrder(t *testing.T) {
	// The joints are 2 to the power 20 and, twice, 2 to the power -4, half of what could be added to this.
	g := even(t, 3, 3, 0, 0)
	g.Conduct[9], g.Conduct[1] = impl.MaxSize, impl.MaxSize
	g.Conduct[10], g.Conduct[17] = 1.0/32, 1.0/32
	g.Heads[1] = 1
	head, code := impl.SettledHead(g, 9)
	wantResult(t, "the great joint comes first", head, code, 1, impl.OK)
	g.Conduct[1], g.Conduct[8], g.Heads[1], g.Heads[8] = 0, impl.MaxSize, 0, 1
	head, code = impl.SettledHead(g, 9)
	wantResult(t, "the great joint comes last", head, code, divided(impl.MaxSize, impl.MaxSize+0.125), impl.OK)
}

func TestSettledHeadAtEdges(t *testing.T) {
	g := even(t, 8, 8, 1, 0)
	g.Fixed = 1 << 27
	for cell := range g.Heads {
		g.Heads[cell] = float32(cell)
	}
	for cell, want := range map[int64]float32{
		0: (1 + 8) / 2.0, 7: (15 + 6) / 2.0, 8: divided(0+9+16, 3), 15: divided(7+23+14, 3),
		56: (48 + 57) / 2.0, 63: (55 + 62) / 2.0, 3: divided(4+11+2, 3), 60: divided(52+61+59, 3), 28: 28,
	} {
		head, code := impl.SettledHead(g, cell)
		wantResult(t, "beside cells that are there alone", head, code, want, impl.OK)
	}
}

func TestSettledHeadWithoutJoints(t *testing.T) {
	for _, head := range []float32{7, 0, negativeZero, least, -impl.MaxSize} {
		for _, gain := range []float32{0, 3, -impl.MaxSize} {
			g := around(t, gain, [4]float32{1, 2, 3, 4})
			g.Heads[9] = head
			for name, conducts := range map[string][5]float32{
				"a dry cell":                   {0, 1, 1, 1, 1},
				"a dry cell, -0":               {negativeZero, 1, 1, 1, 1},
				"dry neighbours":               {1, 0, negativeZero, 0, 0},
				"joints that are rounded to 0": {1e-30, 1e-30, least, 1e-20, 0},
			} {
				g.Conduct[9], g.Conduct[1], g.Conduct[10], g.Conduct[17], g.Conduct[8] = conducts[0], conducts[1], conducts[2], conducts[3], conducts[4]
				got, code := impl.SettledHead(g, 9)
				wantResult(t, name, got, code, head, impl.OK)
			}
		}
	}
}

func TestSettledHeadOfFixedCells(t *testing.T) {
	g := around(t, 1, [4]float32{1, 2, 3, 4})
	for _, head := range []float32{9, negativeZero, impl.MaxSize} {
		g.Heads[9] = head
		g.Fixed = 1 << 9
		got, code := impl.SettledHead(g, 9)
		wantResult(t, "a fixed cell", got, code, head, impl.OK)
		g.Fixed = 1
		got, code = impl.SettledHead(g, 9)
		wantResult(t, "a free cell", got, code, 2.75, impl.OK)
	}
	burst := bursting(t)
	burst.Fixed = 2
	got, code := impl.SettledHead(burst, 1)
	wantResult(t, "a fixed cell that would burst", got, code, 0, impl.OK)
}

func TestSettledHeadOfOddNumbers(t *testing.T) {
	g := around(t, negativeZero, [4]float32{negativeZero, negativeZero, negativeZero, negativeZero})
	head, code := impl.SettledHead(g, 9)
	wantResult(t, "-0 of -0", head, code, negativeZero, impl.OK)
	g.Gain[9] = 0
	head, code = impl.SettledHead(g, 9)
	wantResult(t, "0 and -0", head, code, 0, impl.OK)
	head, code = impl.SettledHead(around(t, 0, [4]float32{least, least, least, least}), 9)
	wantResult(t, "subnormal heads", head, code, least, impl.OK)
	head, code = impl.SettledHead(around(t, 0, [4]float32{least, 0, 0, least}), 9)
	wantResult(t, "half of a subnormal number", head, code, 0, impl.OK)
	g = even(t, 2, 2, 1, 0)
	g.Conduct[1], g.Gain[1] = 1e-20, 1e6
	head, code = impl.SettledHead(g, 1)
	wantResult(t, "finite, but not plain", head, code, settledOf(g, 1), impl.OK)
	if head < 1e25 {
		t.Errorf("the settled head is %v", head)
	}
	head, code = impl.SettledHead(bursting(t), 1)
	wantResult(t, "not finite", head, code, 0, impl.ErrState)
	burst := bursting(t)
	burst.Gain[1] = -1
	head, code = impl.SettledHead(burst, 1)
	wantResult(t, "not finite, less than 0", head, code, 0, impl.ErrState)
}

func TestWarmUp(t *testing.T) {
	for _, g := range manyGrounds(50) {
		for _, head := range []float32{0, negativeZero, 7, least, impl.MaxSize, -impl.MaxSize} {
			want := g
			for _, cell := range cellsOf(g) {
				if g.Fixed>>cell&1 == 0 {
					want.Heads[cell] = head
				}
			}
			got, code := impl.WarmUp(g, head)
			wantGround(t, "WarmUp", got, code, want, impl.OK)
		}
	}
	full := example(t)
	full.Fixed = 1799
	got, code := impl.WarmUp(full, 9)
	wantGround(t, "all cells fixed", got, code, full, impl.OK)
	for _, head := range notPlain {
		got, code = impl.WarmUp(example(t), head)
		wantGround(t, "a head that is not plain", got, code, impl.Ground{}, impl.ErrRange)
		got, code = impl.WarmUp(full, head)
		wantGround(t, "a head that is not plain and is for none", got, code, impl.Ground{}, impl.ErrRange)
	}
}
