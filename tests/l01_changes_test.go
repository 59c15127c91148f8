package tests

import (
	"testing"

	"loop.example/g01288/impl"
)

func TestWithNumbers(t *testing.T) {
	for _, g := range randomGrounds(20) {
		for _, cell := range cellsOf(g) {
			for _, a := range []float32{0, negativeZero, 1, least, impl.MaxSize} {
				want := g
				want.Heads[cell] = a
				got, code := impl.WithHead(g, cell, a)
				wantGround(t, "WithHead", got, code, want, impl.OK)
				want = g
				want.Gain[cell] = a
				got, code = impl.WithGain(g, cell, a)
				wantGround(t, "WithGain", got, code, want, impl.OK)
				want = g
				want.Conduct[cell] = a
				got, code = impl.WithConduct(g, cell, a)
				wantGround(t, "WithConduct", got, code, want, impl.OK)
			}
			want := g
			want.Heads[cell] = -impl.MaxSize
			got, code := impl.WithHead(g, cell, -impl.MaxSize)
			wantGround(t, "WithHead less than 0", got, code, want, impl.OK)
			want = g
			want.Gain[cell] = -impl.MaxSize
			got, code = impl.WithGain(g, cell, -impl.MaxSize)
			wantGround(t, "WithGain less than 0", got, code, want, impl.OK)
		}
	}
}

func TestWithWrongNumbers(t *testing.T) {
	g := example(t)
	for _, a := range []float32{notANumber, infinite, -infinite, 1048576.125, -1048576.125} {
		for _, cell := range cellsOf(g) {
			got, code := impl.WithHead(g, cell, a)
			wantGround(t, "WithHead", got, code, impl.Ground{}, impl.ErrState)
			got, code = impl.WithGain(g, cell, a)
			wantGround(t, "WithGain", got, code, impl.Ground{}, impl.ErrState)
			got, code = impl.WithConduct(g, cell, a)
			wantGround(t, "WithConduct", got, code, impl.Ground{}, impl.ErrState)
		}
	}
	got, code := impl.WithConduct(g, 1, -least)
	wantGround(t, "WithConduct less than 0", got, code, impl.Ground{}, impl.ErrState)
}

func TestWithFixed(t *testing.T) {
	g := example(t)
	want := g
	want.Fixed = 1 | 1<<10
	got, code := impl.WithFixed(g, 10, true)
	wantGround(t, "another fixed cell", got, code, want, impl.OK)
	got, code = impl.WithFixed(g, 0, true)
	wantGround(t, "a cell that is fixed already", got, code, g, impl.OK)
	got, code = impl.WithFixed(g, 10, false)
	wantGround(t, "a cell that is free already", got, code, g, impl.OK)
	got, code = impl.WithFixed(want, 10, false)
	wantGround(t, "a cell that is free again", got, code, g, impl.OK)
	got, code = impl.WithFixed(g, 0, false)
	wantGround(t, "the only fixed cell", got, code, impl.Ground{}, impl.ErrState)
	full := even(t, 8, 8, 1, 0)
	want = full
	want.Fixed = 1<<63 | 1
	got, code = impl.WithFixed(full, 63, true)
	wantGround(t, "the last cell", got, code, want, impl.OK)
}

func TestErrorsReturnNothing(t *testing.T) {
	broken := example(t)
	broken.Fixed = 0
	g := example(t)
	for _, a := range []impl.Ground{broken, g} {
		cell, wantedCode := int64(3), int64(impl.ErrRange)
		if a.Fixed == 0 {
			cell, wantedCode = 0, impl.ErrInvalid
		}
		got, code := impl.WithHead(a, cell, 1)
		wantGround(t, "WithHead", got, code, impl.Ground{}, wantedCode)
		got, code = impl.WithGain(a, cell, 1)
		wantGround(t, "WithGain", got, code, impl.Ground{}, wantedCode)
		got, code = impl.WithConduct(a, cell, 1)
		wantGround(t, "WithConduct", got, code, impl.Ground{}, wantedCode)
		got, code = impl.WithFixed(a, cell, true)
		wantGround(t, "WithFixed", got, code, impl.Ground{}, wantedCode)
		balance, code := impl.BalanceAt(a, cell)
		wantResult(t, "BalanceAt", balance, code, 0, wantedCode)
		flow, code := impl.FlowFrom(a, cell, impl.SdWest)
		wantResult(t, "FlowFrom", flow, code, 0, wantedCode)
	}
	got, code := impl.MirrorGround(broken)
	wantGround(t, "MirrorGround", got, code, impl.Ground{}, impl.ErrInvalid)
	balances, _ := impl.BalancesOf(broken)
	sum, _ := impl.SumOver(broken, broken.Heads)
	low, high, _ := impl.HeadsBetween(broken)
	worst, balance, _ := impl.WorstBalance(broken)
	fed, _ := impl.FedCells(broken)
	all, _ := impl.CellsOf(broken)
	beside, _ := impl.BesideCell(broken, 1, impl.SdEast)
	at, _ := impl.CellAt(broken, 1, 1)
	if balances != (impl.Field{}) || sum != 0 || low != 0 || high != 0 || worst != 0 || balance != 0 || fed != 0 || all != 0 || beside != 0 || at != 0 {
		t.Error("a result with an error is not nothing")
	}
}

func TestFedCells(t *testing.T) {
	dry := even(t, 3, 3, 1, 0)
	for _, cell := range []int64{1, 9, 17} {
		dry.Conduct[cell] = 0
	}
	wantFed(t, "a dry column", dry, 1|1<<8|1<<16)
	dry.Conduct[17] = least
	wantFed(t, "a way around", dry, 1|1<<8|1<<16|1<<17|1<<18|1<<10|1<<2)
	dry.Conduct[18] = 1e-30
	wantFed(t, "a joint that is rounded to 0", dry, 1|1<<8|1<<16|1<<17)
	dry.Conduct[17] = negativeZero
	dry.Fixed = 1 | 1<<9
	wantFed(t, "a fixed cell that is dry feeds none", dry, 1|1<<8|1<<16|1<<9)
	tiny := even(t, 2, 2, 1e-30, 0)
	wantFed(t, "all joints are rounded to 0", tiny, 1)
	rows := even(t, 8, 2, 1, 0)
	for x := range 8 {
		rows.Conduct[x] = 0
	}
	rows.Fixed = 1 << 7
	wantFed(t, "the end of a row is no neighbour of the next one's beginning", rows, 1<<7)
	path := even(t, 8, 8, 0, 0)
	path.Fixed = 1 << 63
	want := uint64(0)
	for y := range 8 {
		for x := range 8 {
			if y%2 == 0 || x == 0 && y%4 == 1 || x == 7 && y%4 == 3 || y == 7 && x == 7 {
				path.Conduct[x+8*y] = 1
				want |= 1 << (x + 8*y)
			}
		}
	}
	wantFed(t, "a long way back", path, want)
	for _, g := range randomGrounds(300) {
		wantFed(t, "many grounds", g, fedOf(g))
	}
}

func wantFed(t *testing.T, name string, g impl.Ground, want uint64) {
	t.Helper()
	got, code := impl.FedCells(g)
	if got != want || code != impl.OK {
		t.Errorf("%s: %x %d, want %x", name, got, code, want)
	}
}

// fedOf adds neighbours until there are no more.
func fedOf(g impl.Ground) uint64 {
	fed := g.Fixed
	for {
		next := fed
		for _, cell := range cellsOf(g) {
			for _, side := range sides {
				other := besideOf(g, cell, side)
				if other >= 0 && fed>>other&1 == 1 && jointOf(g.Conduct[cell], g.Conduct[other]) > 0 {
					next |= 1 << cell
				}
			}
		}
		if next == fed {
			return fed
		}
		fed = next
	}
}

func TestMirrorGround(t *testing.T) {
	g := example(t)
	g.Heads[0], g.Gain[2], g.Conduct[8] = 1, 2, 3
	g.Fixed = 1 | 1<<9
	want := even(t, 3, 2, 2, 5)
	want.Heads[1], want.Heads[2], want.Gain[0], want.Conduct[10] = 6, 1, 2, 3
	want.Fixed = 1<<2 | 1<<9
	got, code := impl.MirrorGround(g)
	wantGround(t, "mirror", got, code, want, impl.OK)
	for _, g := range randomGrounds(200) {
		mirror, code := impl.MirrorGround(g)
		wantCode(t, "MirrorGround", code, impl.OK)
		for _, cell := range cellsOf(g) {
			image := int64(g.Wide) - 1 - cell%8 + 8*(cell/8)
			same := sameBits(mirror.Conduct[image], g.Conduct[cell]) && sameBits(mirror.Gain[image], g.Gain[cell]) && sameBits(mirror.Heads[image], g.Heads[cell])
			if !same || mirror.Fixed>>image&1 != g.Fixed>>cell&1 {
				t.Errorf("the cell %d has not gone to %d", cell, image)
			}
		}
		back, code := impl.MirrorGround(mirror)
		wantGround(t, "mirrored twice", back, code, g, impl.OK)
	}
}
