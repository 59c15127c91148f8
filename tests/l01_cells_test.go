package tests

import (
	"math"
	"testing"

	"loop.example/g01288/impl"
)

func TestValidGround(t *testing.T) {
	for _, broken := range brokenGrounds(t) {
		if impl.ValidGround(broken.ground) {
			t.Errorf("valid with %s: %v", broken.name, broken.ground)
		}
	}
	for _, g := range randomGrounds(200) {
		if !impl.ValidGround(g) {
			t.Errorf("not valid: %v", g)
		}
	}
	g := example(t)
	g.Conduct[0], g.Conduct[1], g.Conduct[2] = negativeZero, impl.MaxSize, least
	g.Gain[0], g.Gain[1], g.Gain[2] = negativeZero, -impl.MaxSize, impl.MaxSize
	g.Heads[0], g.Heads[1], g.Heads[2] = negativeZero, -impl.MaxSize, impl.MaxSize
	g.Conduct[3], g.Gain[11], g.Heads[63] = negativeZero, negativeZero, negativeZero
	g.Fixed = 1799
	if !impl.ValidGround(g) {
		t.Error("numbers at their limits, -0 where no cells are, and all cells fixed are valid")
	}
	full := even(t, 8, 8, 1, 0)
	full.Fixed = math.MaxUint64
	if !impl.ValidGround(full) {
		t.Error("the greatest ground with all cells fixed is valid")
	}
}

func TestSameFieldAndGround(t *testing.T) {
	a := impl.Field{}
	for i := range a {
		b := a
		if !impl.SameField(a, b) {
			t.Error("a copy is the same")
		}
		b[i] = negativeZero
		if impl.SameField(a, b) || impl.SameField(b, a) {
			t.Errorf("-0 at %d is not the same as 0", i)
		}
		b[i] = notANumber
		c := b
		c[i] = math.Float32frombits(0xffc00001)
		if impl.SameField(a, b) || impl.SameField(b, a) || !impl.SameField(b, c) {
			t.Errorf("at %d NaN is the same as NaN alone", i)
		}
	}
	g := example(t)
	for name, change := range map[string]func(g *impl.Ground){
		"Wide":        func(g *impl.Ground) { g.Wide = 2 },
		"High":        func(g *impl.Ground) { g.High = 3 },
		"Conduct":     func(g *impl.Ground) { g.Conduct[10] = 3 },
		"Gain":        func(g *impl.Ground) { g.Gain[0] = negativeZero },
		"Heads":       func(g *impl.Ground) { g.Heads[2] = 4 },
		"Fixed":       func(g *impl.Ground) { g.Fixed = 3 },
		"no cell, -0": func(g *impl.Ground) { g.Heads[63] = negativeZero },
	} {
		h := g
		change(&h)
		if impl.SameGround(g, h) || impl.SameGround(h, g) || !impl.SameGround(h, h) || !impl.SameGround(g, g) {
			t.Errorf("another %s is not the same ground", name)
		}
	}
	for _, broken := range brokenGrounds(t) {
		if !impl.SameGround(broken.ground, broken.ground) || impl.SameGround(broken.ground, g) {
			t.Errorf("a ground with %s is the same as itself alone", broken.name)
		}
	}
}

func TestEvenGround(t *testing.T) {
	for wide := int64(2); wide <= 8; wide++ {
		for high := int64(2); high <= 8; high++ {
			want := impl.Ground{Wide: int8(wide), High: int8(high), Fixed: 1}
			for _, cell := range cellsOf(want) {
				want.Conduct[cell], want.Heads[cell] = 0.5, -3
			}
			g, code := impl.EvenGround(wide, high, 0.5, -3)
			wantGround(t, "EvenGround", g, code, want, impl.OK)
		}
	}
	g, code := impl.EvenGround(2, 2, negativeZero, negativeZero)
	wantCode(t, "EvenGround of -0", code, impl.OK)
	wantNumber(t, "the conductance -0", g.Conduct[9], negativeZero)
	wantNumber(t, "the head -0", g.Heads[9], negativeZero)
	wantNumber(t, "no gain", g.Gain[9], 0)
	wantNumber(t, "no cell", g.Conduct[2], 0)
	_, code = impl.EvenGround(8, 8, impl.MaxSize, -impl.MaxSize)
	wantCode(t, "EvenGround of the limits", code, impl.OK)
}

func TestEvenGroundErrors(t *testing.T) {
	for _, extent := range []int64{-1, 0, 1, 9, 258, 1 << 32, 1<<32 + 2, math.MaxInt64, math.MinInt64} {
		g, code := impl.EvenGround(extent, 2, 1, 0)
		wantGround(t, "wrong Wide", g, code, impl.Ground{}, impl.ErrRange)
		g, code = impl.EvenGround(2, extent, 1, 0)
		wantGround(t, "wrong High", g, code, impl.Ground{}, impl.ErrRange)
		g, code = impl.EvenGround(extent, 2, notANumber, 0)
		wantGround(t, "wrong Wide and conductance", g, code, impl.Ground{}, impl.ErrInvalid)
		g, code = impl.EvenGround(2, extent, 1, infinite)
		wantGround(t, "wrong High and head", g, code, impl.Ground{}, impl.ErrInvalid)
	}
	for _, a := range []float32{notANumber, infinite, -infinite, 1048576.125, -1048576.125} {
		g, code := impl.EvenGround(2, 2, a, 0)
		wantGround(t, "wrong conductance", g, code, impl.Ground{}, impl.ErrInvalid)
		g, code = impl.EvenGround(2, 2, 1, a)
		wantGround(t, "wrong head", g, code, impl.Ground{}, impl.ErrInvalid)
	}
	g, code := impl.EvenGround(2, 2, -least, 0)
	wantGround(t, "conductance less than 0", g, code, impl.Ground{}, impl.ErrInvalid)
}

func TestCellAt(t *testing.T) {
	for _, g := range randomGrounds(50) {
		for x := int64(-2); x < 10; x++ {
			for y := int64(-2); y < 10; y++ {
				cell, code := impl.CellAt(g, x, y)
				if x < 0 || y < 0 || x >= int64(g.Wide) || y >= int64(g.High) {
					if cell != 0 || code != impl.ErrRange {
						t.Errorf("CellAt %d %d of %d %d: %d %d", x, y, g.Wide, g.High, cell, code)
					}
				} else if cell != x+impl.Stride*y || code != impl.OK {
					t.Errorf("CellAt %d %d: %d %d", x, y, cell, code)
				}
			}
		}
	}
	for _, far := range []int64{256, 1 << 32, math.MaxInt64, math.MinInt64} {
		_, code := impl.CellAt(example(t), far, 0)
		wantCode(t, "far east or west", code, impl.ErrRange)
		_, code = impl.CellAt(example(t), 0, far)
		wantCode(t, "far south or north", code, impl.ErrRange)
	}
}

func TestBesideCellAndCellsOf(t *testing.T) {
	for _, g := range randomGrounds(50) {
		mask := uint64(0)
		for _, cell := range cellsOf(g) {
			mask |= 1 << cell
			for _, side := range sides {
				want, wantedCode := besideOf(g, cell, side), int64(impl.OK)
				if want < 0 {
					want, wantedCode = 0, impl.ErrNotFound
				}
				got, code := impl.BesideCell(g, cell, side)
				if got != want || code != wantedCode {
					t.Errorf("BesideCell %d %d of %d %d: %d %d", cell, side, g.Wide, g.High, got, code)
				}
			}
		}
		if got, code := impl.CellsOf(g); got != mask || code != impl.OK {
			t.Errorf("CellsOf %d %d: %x %d", g.Wide, g.High, got, code)
		}
	}
	g := even(t, 3, 3, 2, 5)
	for side, want := range map[int64]int64{impl.SdNorth: 1, impl.SdEast: 10, impl.SdSouth: 17, impl.SdWest: 8} {
		got, code := impl.BesideCell(g, 9, side)
		if got != want || code != impl.OK {
			t.Errorf("beside the cell 9 on the side %d: %d %d", side, got, code)
		}
	}
}

func TestGroundCheckedFirst(t *testing.T) {
	for _, broken := range brokenGrounds(t) {
		g := broken.ground
		for _, cell := range []int64{0, -1, 64} {
			for name, code := range codesOfCell(g, cell) {
				wantCode(t, name+" with "+broken.name, code, impl.ErrInvalid)
			}
		}
		for name, code := range codesOfGround(g) {
			wantCode(t, name+" with "+broken.name, code, impl.ErrInvalid)
		}
	}
}

// codesOfGround returns the codes of the functions whose one error is that of the ground.
func codesOfGround(g impl.Ground) map[string]int64 {
	codes := map[string]int64{}
	_, codes["CellsOf"] = impl.CellsOf(g)
	_, codes["BalancesOf"] = impl.BalancesOf(g)
	_, _, codes["WorstBalance"] = impl.WorstBalance(g)
	_, codes["SumOver"] = impl.SumOver(g, impl.Field{0: infinite})
	_, _, codes["HeadsBetween"] = impl.HeadsBetween(g)
	_, codes["FedCells"] = impl.FedCells(g)
	_, codes["MirrorGround"] = impl.MirrorGround(g)
	return codes
}

// codesOfCell returns the codes of the functions with a cell, the other arguments being wrong.
func codesOfCell(g impl.Ground, cell int64) map[string]int64 {
	codes := map[string]int64{}
	_, codes["CellAt"] = impl.CellAt(g, -1, cell)
	_, codes["BesideCell"] = impl.BesideCell(g, cell, -1)
	_, codes["FlowFrom"] = impl.FlowFrom(g, cell, 4)
	_, codes["BalanceAt"] = impl.BalanceAt(g, cell)
	_, codes["WithHead"] = impl.WithHead(g, cell, notANumber)
	_, codes["WithGain"] = impl.WithGain(g, cell, notANumber)
	_, codes["WithConduct"] = impl.WithConduct(g, cell, -1)
	_, codes["WithFixed"] = impl.WithFixed(g, cell, false)
	return codes
}

func TestCellCheckedNext(t *testing.T) {
	g := example(t)
	for _, cell := range wrongCells {
		for name, code := range codesOfCell(g, cell) {
			wantCode(t, name+" with a wrong cell", code, impl.ErrRange)
		}
		_, code := impl.BesideCell(g, cell, impl.SdNorth)
		wantCode(t, "BesideCell with a wrong cell", code, impl.ErrRange)
		flow, code := impl.FlowFrom(g, cell, impl.SdNorth)
		wantResult(t, "FlowFrom with a wrong cell", flow, code, 0, impl.ErrRange)
	}
	for _, side := range wrongSides {
		for _, cell := range cellsOf(g) {
			beside, code := impl.BesideCell(g, cell, side)
			wantCode(t, "BesideCell with a wrong side", code, impl.ErrRange)
			flow, flowCode := impl.FlowFrom(g, cell, side)
			wantResult(t, "FlowFrom with a wrong side", flow, flowCode, 0, impl.ErrRange)
			if beside != 0 {
				t.Errorf("BesideCell with a wrong side: %d", beside)
			}
		}
	}
}
