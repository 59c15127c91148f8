package tests

import (
	"math"
	"testing"

	"loop.example/g01288/impl"
)

func TestChapterExample(t *testing.T) {
	g := example(t)
	wantNumber(t, "joint of 1 and 3", impl.JointOf(1, 3), 1.5)
	wantNumber(t, "joint of 0 and 3", impl.JointOf(0, 3), 0)
	flow, code := impl.FlowFrom(g, 1, impl.SdWest)
	wantResult(t, "flow from 1 to the west", flow, code, 2, impl.OK)
	balance, code := impl.BalanceAt(g, 0)
	wantResult(t, "balance of 0", balance, code, 2, impl.OK)
	balance, code = impl.BalanceAt(g, 1)
	wantResult(t, "balance of 1", balance, code, -6, impl.OK)
	if cell, code := impl.CellAt(g, 2, 1); cell != 10 || code != impl.OK {
		t.Errorf("cell at 2, 1: %d %d", cell, code)
	}
	if fed, code := impl.FedCells(g); fed != 1799 || code != impl.OK {
		t.Errorf("fed cells: %d %d", fed, code)
	}
	if text := impl.NumberText(1); text != "3f800000" {
		t.Errorf("text of 1: %q", text)
	}
}

func TestFlowsAndBalances(t *testing.T) {
	for _, g := range randomGrounds(300) {
		want := impl.Field{}
		for _, cell := range cellsOf(g) {
			for _, side := range sides {
				flow, code := impl.FlowFrom(g, cell, side)
				wantResult(t, "flow", flow, code, flowOf(g, cell, side), impl.OK)
			}
			want[cell] = balanceOf(g, cell)
			balance, code := impl.BalanceAt(g, cell)
			wantResult(t, "balance", balance, code, want[cell], impl.OK)
		}
		balances, code := impl.BalancesOf(g)
		wantCode(t, "BalancesOf", code, impl.OK)
		if !sameField(balances, want) {
			t.Errorf("BalancesOf: %v, want %v", balances, want)
		}
	}
}

func TestFlowOfNothing(t *testing.T) {
	g := even(t, 2, 2, 0, 0)
	g.Heads[1] = 3
	flow, code := impl.FlowFrom(g, 0, impl.SdEast)
	wantResult(t, "0 times less than 0", flow, code, negativeZero, impl.OK)
	flow, code = impl.FlowFrom(g, 0, impl.SdNorth)
	wantResult(t, "flow to where no cell is", flow, code, 0, impl.OK)
	g.Gain[0] = negativeZero
	g.Gain[9] = negativeZero
	balance, code := impl.BalanceAt(g, 0)
	wantResult(t, "-0 less -0, and less 0", balance, code, 0, impl.OK)
	balance, code = impl.BalanceAt(g, 9)
	wantResult(t, "-0 less -0", balance, code, 0, impl.OK)
	g.Heads[1] = 0
	balance, code = impl.BalanceAt(g, 9)
	wantResult(t, "-0 less 0", balance, code, negativeZero, impl.OK)
}

// middle is a ground around the cell 9, from which that much flows to the north, east, south and west.
func middle(t *testing.T, gain float32, drops [4]float32) impl.Ground {
	t.Helper()
	g := even(t, 3, 3, impl.MaxSize, 0)
	g.Gain[9] = gain
	g.Heads[1], g.Heads[10], g.Heads[17], g.Heads[8] = -drops[0], -drops[1], -drops[2], -drops[3]
	return g
}

func TestBalanceInOrder(t *testing.T) {
	const great, small = 1 << 20, 1.0 / (1 << 10)
	const smallFlow = small * impl.MaxSize
	for _, c := range []struct {
		name  string
		gain  float32
		drops [4]float32
		want  float32
	}{
		{"the gain comes first", smallFlow, [4]float32{great, -great, 0, 0}, 0},
		{"north, then east", 0, [4]float32{small, great, -great, 0}, 0},
		{"east behind north and ahead of south", 0, [4]float32{great, small, -great, 0}, 0},
		{"south behind east", 0, [4]float32{great, -great, small, 0}, -smallFlow},
		{"west is the last", 0, [4]float32{great, 0, -great, small}, -smallFlow},
		{"south ahead of west", 0, [4]float32{0, great, small, -great}, 0},
	} {
		balance, code := impl.BalanceAt(middle(t, c.gain, c.drops), 9)
		wantResult(t, c.name, balance, code, c.want, impl.OK)
	}
}

func TestWorstBalance(t *testing.T) {
	g := example(t)
	cell, balance, code := impl.WorstBalance(g)
	wantResult(t, "the example", balance, code, -6, impl.OK)
	if cell != 1 {
		t.Errorf("the worst cell is %d", cell)
	}
	g = even(t, 3, 2, 2, 5)
	g.Gain[0], g.Gain[2], g.Gain[8], g.Gain[10] = 100, -7, 7, -7
	cell, balance, code = impl.WorstBalance(g)
	wantResult(t, "the first of several, and not the fixed one", balance, code, -7, impl.OK)
	if cell != 2 {
		t.Errorf("the first of several is %d", cell)
	}
	g.Fixed = 1799 &^ (1 << 9)
	g.Gain[9] = negativeZero
	cell, balance, code = impl.WorstBalance(g)
	wantResult(t, "the only one that is not fixed", balance, code, negativeZero, impl.OK)
	if cell != 9 {
		t.Errorf("the only one is %d", cell)
	}
	g.Fixed = 1799
	cell, balance, code = impl.WorstBalance(g)
	wantResult(t, "all cells fixed", balance, code, 0, impl.ErrNotFound)
	if cell != 0 {
		t.Errorf("all cells fixed: %d", cell)
	}
}

func TestWorstBalanceOfMany(t *testing.T) {
	for _, g := range randomGrounds(300) {
		want, wantedCode := int64(-1), int64(impl.OK)
		for _, cell := range cellsOf(g) {
			if g.Fixed>>cell&1 == 1 {
				continue
			}
			if want < 0 || math.Abs(float64(balanceOf(g, cell))) > math.Abs(float64(balanceOf(g, want))) {
				want = cell
			}
		}
		number := float32(0)
		if want < 0 {
			want, wantedCode = 0, impl.ErrNotFound
		} else {
			number = balanceOf(g, want)
		}
		cell, balance, code := impl.WorstBalance(g)
		wantResult(t, "worst balance", balance, code, number, wantedCode)
		if cell != want {
			t.Errorf("worst cell %d, want %d", cell, want)
		}
	}
}

func TestSumOver(t *testing.T) {
	g := example(t)
	sum, code := impl.SumOver(g, g.Heads)
	wantResult(t, "heads of the example", sum, code, 31, impl.OK)
	outside := impl.Field{3: notANumber, 11: infinite, 63: 5, 0: 1}
	sum, code = impl.SumOver(g, outside)
	wantResult(t, "numbers that are no cells are left out", sum, code, 1, impl.OK)
	zeros := impl.Field{}
	for i := range zeros {
		zeros[i] = negativeZero
	}
	sum, code = impl.SumOver(g, zeros)
	wantResult(t, "the sum begins with the first number", sum, code, negativeZero, impl.OK)
	sum, code = impl.SumOver(g, impl.Field{0: 1, 1: 1e20, 2: -1e20, 8: 2})
	wantResult(t, "from the first to the last", sum, code, 2, impl.OK)
	sum, code = impl.SumOver(g, impl.Field{2: 1e20, 8: 1, 9: -1e20, 10: 3})
	wantResult(t, "row by row", sum, code, 3, impl.OK)
	sum, code = impl.SumOver(g, impl.Field{8: least, 9: least})
	wantResult(t, "subnormal numbers", sum, code, 2*least, impl.OK)
	for _, f := range []impl.Field{{0: notANumber}, {10: infinite}, {9: -infinite}, {0: infinite, 1: -infinite}, {1: math.MaxFloat32, 2: math.MaxFloat32, 8: -math.MaxFloat32}} {
		sum, code = impl.SumOver(g, f)
		wantResult(t, "a sum that is not finite", sum, code, 0, impl.ErrState)
	}
	for _, h := range randomGrounds(200) {
		want := h.Gain[0]
		for _, cell := range cellsOf(h)[1:] {
			want = plus(want, h.Gain[cell])
		}
		sum, code = impl.SumOver(h, h.Gain)
		wantResult(t, "sum of gains", sum, code, want, impl.OK)
	}
}

func TestHeadsBetween(t *testing.T) {
	g := example(t)
	low, high, code := impl.HeadsBetween(g)
	wantResult(t, "least head", low, code, 5, impl.OK)
	wantResult(t, "greatest head", high, code, 6, impl.OK)
	g = even(t, 3, 2, 2, -4)
	low, high, code = impl.HeadsBetween(g)
	wantResult(t, "least head, not that of no cell", low, code, -4, impl.OK)
	wantResult(t, "greatest head, not that of no cell", high, code, -4, impl.OK)
	g = even(t, 3, 2, 2, 0)
	g.Heads[1], g.Heads[8] = negativeZero, negativeZero
	low, high, _ = impl.HeadsBetween(g)
	wantNumber(t, "0 ahead of -0, least", low, 0)
	wantNumber(t, "0 ahead of -0, greatest", high, 0)
	g.Heads[0], g.Heads[1] = negativeZero, 0
	low, high, _ = impl.HeadsBetween(g)
	wantNumber(t, "-0 ahead of 0, least", low, negativeZero)
	wantNumber(t, "-0 ahead of 0, greatest", high, negativeZero)
	g.Heads[10], g.Heads[9] = impl.MaxSize, -impl.MaxSize
	low, high, _ = impl.HeadsBetween(g)
	wantNumber(t, "least of the last row", low, -impl.MaxSize)
	wantNumber(t, "greatest of the last row", high, impl.MaxSize)
}
