package tests

import (
	"testing"

	"loop.example/g01288/impl"
)

// settleResult is what SettleGround returns.
type settleResult struct {
	ground impl.Ground
	sweeps int64
	code   int64
}

func wantSettled(t *testing.T, name string, g impl.Ground, within float32, most int64, want settleResult) {
	t.Helper()
	got, sweeps, code := impl.SettleGround(g, within, most)
	wantGround(t, name, got, code, want.ground, want.code)
	if sweeps != want.sweeps {
		t.Errorf("%s: %d sweeps, want %d", name, sweeps, want.sweeps)
	}
}

func TestSettleGroundOfMany(t *testing.T) {
	codes := map[int64]int{}
	for i, g := range manyGrounds(60) {
		within := []float32{0.001, 0.1, 1, 1e-6}[i%4]
		most := []int64{100, 30, 7, 0}[i/4%4]
		want, n, code := settleOf(g, within, most)
		wantSettled(t, "SettleGround", g, within, most, settleResult{want, n, code})
		codes[code]++
	}
	if codes[impl.OK] < 20 || codes[impl.ErrBudget] < 10 || codes[impl.ErrState] < 10 {
		t.Errorf("these grounds are too much alike: %v", codes)
	}
}

func TestSettleGroundCountsSweeps(t *testing.T) {
	g := line(t)
	want := g
	// The sweep that changes nothing any more is one, too.
	wantHeads := [][3]float32{{0, 4, 4}, {0, 2, 2}, {0, 1, 1}}
	for i, change := range []float32{4, 2, 1} {
		want.Heads[0], want.Heads[1], want.Heads[2] = wantHeads[i][0], wantHeads[i][1], wantHeads[i][2]
		n := int64(i + 1)
		wantSettled(t, "within the change of a sweep", g, change, n, settleResult{want, n, impl.OK})
		wantSettled(t, "with sweeps to spare", g, change, impl.MaxSweeps, settleResult{want, n, impl.OK})
		wantSettled(t, "one sweep too few", g, change, n-1, settleResult{code: impl.ErrBudget})
		wantSettled(t, "within a little less", g, justBelow(change), n, settleResult{code: impl.ErrBudget})
	}
	flat := even(t, 3, 2, 2, 5)
	for _, within := range []float32{0, negativeZero, least, impl.MaxSize} {
		wantSettled(t, "a ground that is still", flat, within, 1, settleResult{flat, 1, impl.OK})
		wantSettled(t, "a ground that is still, without sweeps", flat, within, 0, settleResult{code: impl.ErrBudget})
	}
}

func TestSettleGroundUpToMaxSweeps(t *testing.T) {
	// The heads become less and less by nearly the same part in each sweep, down to 0.
	g := even(t, 8, 8, 1, 1000)
	g.Heads[0] = 0
	now := sweepResult{ground: g}
	for range impl.MaxSweeps {
		now = inOrderOf(now.ground)
	}
	last := settleResult{now.ground, impl.MaxSweeps, impl.OK}
	wantSettled(t, "as many sweeps as can be", g, now.change, impl.MaxSweeps, last)
	wantSettled(t, "one sweep too few", g, now.change, impl.MaxSweeps-1, settleResult{code: impl.ErrBudget})
	wantSettled(t, "within a little less", g, justBelow(now.change), impl.MaxSweeps, settleResult{code: impl.ErrBudget})
	wantSettled(t, "heads that rise without an end", rising(t, 0.125), 0.01, impl.MaxSweeps, settleResult{code: impl.ErrBudget})
}

func TestSettleGroundToNoGround(t *testing.T) {
	g := rising(t, impl.MaxSize)
	want := g
	want.Heads[9] = impl.MaxSize / 2
	wantSettled(t, "ahead of it", g, impl.MaxSize/2, 3, settleResult{want, 1, impl.OK})
	wantSettled(t, "the sweep to it is not made", g, 0, 2, settleResult{code: impl.ErrBudget})
	wantSettled(t, "the sweep to it is made", g, 0, 3, settleResult{code: impl.ErrState})
	wantSettled(t, "even if it could go on", g, 0, impl.MaxSweeps, settleResult{code: impl.ErrState})
	wantSettled(t, "the first sweep", bursting(t), impl.MaxSize, 1, settleResult{code: impl.ErrState})
	wantSettled(t, "no sweep", bursting(t), impl.MaxSize, 0, settleResult{code: impl.ErrBudget})
}

func TestSettlingRanges(t *testing.T) {
	for _, g := range []impl.Ground{example(t), bursting(t)} {
		for _, within := range wrongLeeways {
			wantSettled(t, "wrong within", g, within, 0, settleResult{code: impl.ErrRange})
			still, code := impl.IsStill(g, within)
			wantStill(t, "wrong within", still, code, false, impl.ErrRange)
			wantPumped(t, "wrong within", g, pumping{0, 1, within, 0}, pumpResult{code: impl.ErrRange})
		}
		for _, most := range wrongBudgets {
			wantSettled(t, "wrong most", g, 1, most, settleResult{code: impl.ErrRange})
			wantPumped(t, "wrong most", g, pumping{0, 1, 1, most}, pumpResult{code: impl.ErrRange})
		}
		for _, rate := range notPlain {
			wantPumped(t, "wrong rate", g, pumping{0, rate, 1, 0}, pumpResult{code: impl.ErrRange})
		}
		for _, cell := range wrongCells {
			wantPumped(t, "wrong cell", g, pumping{cell, 1, 1, 0}, pumpResult{code: impl.ErrRange})
		}
	}
}

func wantStill(t *testing.T, name string, got bool, code int64, want bool, wantedCode int64) {
	t.Helper()
	wantCode(t, name, code, wantedCode)
	if got != want {
		t.Errorf("%s: still %v, want %v", name, got, want)
	}
}

func TestIsStill(t *testing.T) {
	g := example(t)
	for within, want := range map[float32]bool{0: false, 0.5: false, justBelow(1): false, 1: true, justAbove(1): true, impl.MaxSize: true} {
		still, code := impl.IsStill(g, within)
		wantStill(t, "the example", still, code, want, impl.OK)
	}
	for _, within := range []float32{0, negativeZero, least, impl.MaxSize} {
		still, code := impl.IsStill(even(t, 3, 2, 2, 5), within)
		wantStill(t, "an even ground", still, code, true, impl.OK)
		still, code = impl.IsStill(bursting(t), within)
		wantStill(t, "a ground that bursts", still, code, false, impl.ErrState)
		still, code = impl.IsStill(rising(t, 0), within)
		wantStill(t, "cells that are not fed", still, code, true, impl.OK)
	}
	// Heads that change places with their neighbours are not still, though a sweep in order would be quick to settle them.
	lively := line(t)
	lively.Heads[1] = 6
	still, code := impl.IsStill(lively, 2)
	wantStill(t, "all at once", still, code, true, impl.OK)
	for _, g := range manyGrounds(100) {
		s := stepOf(g)
		for _, within := range []float32{0, 1, s.change, justAbove(s.change)} {
			if within <= impl.MaxSize {
				still, code := impl.IsStill(g, within)
				wantStill(t, "many grounds", still, code, s.code == impl.OK && s.change <= within, s.code)
			}
		}
	}
}

// pumping has the arguments of PumpAt but the ground.
type pumping struct {
	cell         int64
	rate, within float32
	most         int64
}

// pumpResult is what PumpAt returns.
type pumpResult struct {
	ground  impl.Ground
	changes impl.Field
	code    int64
}

func wantPumped(t *testing.T, name string, g impl.Ground, p pumping, want pumpResult) {
	t.Helper()
	got, changes, code := impl.PumpAt(g, p.cell, p.rate, p.within, p.most)
	wantGround(t, name, got, code, want.ground, want.code)
	if !sameField(changes, want.changes) {
		t.Errorf("%s: changes %v, want %v", name, changes, want.changes)
	}
}

// pumpOf returns what pumping at a cell leads to.
func pumpOf(g impl.Ground, p pumping) pumpResult {
	pumped := g
	pumped.Gain[p.cell] = minus(g.Gain[p.cell], p.rate)
	if gain := pumped.Gain[p.cell]; gain < -impl.MaxSize || gain > impl.MaxSize {
		return pumpResult{code: impl.ErrState}
	}
	settled, _, code := settleOf(pumped, p.within, p.most)
	if code != impl.OK {
		return pumpResult{code: code}
	}
	changes := impl.Field{}
	for _, cell := range cellsOf(g) {
		changes[cell] = minus(settled.Heads[cell], g.Heads[cell])
	}
	return pumpResult{settled, changes, impl.OK}
}

func TestPumpAtMany(t *testing.T) {
	codes := map[int64]int{}
	rates := []float32{1, -2, 0, 0.1, impl.MaxSize}
	for i, g := range manyGrounds(60) {
		cells := cellsOf(g)
		p := pumping{cells[i%len(cells)], rates[i%5], 0.01, 100}
		want := pumpOf(g, p)
		wantPumped(t, "PumpAt", g, p, want)
		codes[want.code]++
	}
	if codes[impl.OK] < 20 || codes[impl.ErrState] < 10 {
		t.Errorf("these grounds are too much alike: %v", codes)
	}
}

func TestPumpAt(t *testing.T) {
	g := line(t)
	g.Fixed |= 1 << 2
	g.Heads[1] = 100
	want := g
	want.Gain[1], want.Heads[1] = -2, 3
	wantPumped(t, "changes from the ground as it was", g, pumping{1, 2, 0, 2}, pumpResult{want, impl.Field{1: -97}, impl.OK})
	wantPumped(t, "one sweep too few", g, pumping{1, 2, 0, 1}, pumpResult{code: impl.ErrBudget})
	want.Gain[1], want.Heads[1] = 2, 5
	wantPumped(t, "a rate less than 0", g, pumping{1, -2, 0, 2}, pumpResult{want, impl.Field{1: -95}, impl.OK})
	want = g
	want.Gain[2], want.Heads[1] = -2, 4
	wantPumped(t, "at a fixed cell", g, pumping{2, 2, 0, 2}, pumpResult{want, impl.Field{1: -96}, impl.OK})
	want = g
	want.Gain[9] = -2
	want.Heads[1] = 4
	wantPumped(t, "at a dry cell", g, pumping{9, 2, 0, 2}, pumpResult{want, impl.Field{1: -96}, impl.OK})
	g.Gain[9] = negativeZero
	want.Gain[9] = negativeZero
	wantPumped(t, "-0 less 0", g, pumping{9, 0, 0, 2}, pumpResult{want, impl.Field{1: -96}, impl.OK})
}

func TestPumpAtGains(t *testing.T) {
	g := line(t)
	g.Heads[1], g.Heads[2] = 0, 0
	g.Gain[9], g.Gain[8] = -impl.MaxSize, impl.MaxSize
	want := g
	want.Gain[9] = 0
	wantPumped(t, "all of the gain", g, pumping{9, -impl.MaxSize, 0, 1}, pumpResult{want, impl.Field{}, impl.OK})
	wantPumped(t, "no more gain", g, pumping{9, least, 0, 1}, pumpResult{g, impl.Field{}, impl.OK})
	for _, most := range []int64{0, 1} {
		wantPumped(t, "a gain less than can be", g, pumping{9, 1, 0, most}, pumpResult{code: impl.ErrState})
		wantPumped(t, "a gain greater than can be", g, pumping{8, -1, 0, most}, pumpResult{code: impl.ErrState})
	}
	for _, within := range wrongLeeways {
		wantPumped(t, "a wrong within and a gain less than can be", g, pumping{9, 1, within, 1}, pumpResult{code: impl.ErrRange})
	}
	for _, most := range wrongBudgets {
		wantPumped(t, "a wrong most and a gain less than can be", g, pumping{9, 1, 0, most}, pumpResult{code: impl.ErrRange})
	}
	burst := bursting(t)
	wantPumped(t, "a sweep to no ground", burst, pumping{9, 1, 0, 1}, pumpResult{code: impl.ErrState})
	wantPumped(t, "no sweep to no ground", burst, pumping{9, 1, 0, 0}, pumpResult{code: impl.ErrBudget})
	want = burst
	want.Gain[1] = 0
	wantPumped(t, "what would burst is pumped", burst, pumping{1, 1, 0, 1}, pumpResult{want, impl.Field{}, impl.OK})
}

func TestLeakOf(t *testing.T) {
	leak, code := impl.LeakOf(example(t))
	wantResult(t, "what comes in at the cell 0", leak, code, -2, impl.OK)
	g := example(t)
	g.Fixed = 1 | 1<<2
	g.Gain[0], g.Gain[1] = 0.5, 100
	leak, code = impl.LeakOf(g)
	wantResult(t, "at the cells 0 and 2, and not at 1", leak, code, -4.5, impl.OK)
	dry := even(t, 3, 2, 0, 0)
	leak, code = impl.LeakOf(dry)
	wantResult(t, "0 less 0", leak, code, 0, impl.OK)
	for _, cell := range cellsOf(dry) {
		dry.Gain[cell] = negativeZero
	}
	leak, code = impl.LeakOf(dry)
	wantResult(t, "0 less -0", leak, code, 0, impl.OK)
	dry.Fixed = 1799
	dry.Gain[0], dry.Gain[1], dry.Gain[2] = 1<<20, 1.0/32, -1<<20
	leak, code = impl.LeakOf(dry)
	wantResult(t, "in ascending order", leak, code, 0, impl.OK)
	dry.Gain[1], dry.Gain[2], dry.Gain[8] = -1<<20, 1.0/32, 0
	leak, code = impl.LeakOf(dry)
	wantResult(t, "row by row", leak, code, -1.0/32, impl.OK)
	dry = even(t, 3, 2, 0, 0)
	dry.Fixed, dry.Gain[0], dry.Gain[10] = 1<<10, 5, least
	leak, code = impl.LeakOf(dry)
	wantResult(t, "the first fixed cell is the last one", leak, code, -least, impl.OK)
	for _, g := range manyGrounds(300) {
		sum, begun := float32(0), false
		for _, cell := range cellsOf(g) {
			if g.Fixed>>cell&1 == 0 {
				continue
			}
			if begun {
				sum = plus(sum, balanceOf(g, cell))
			} else {
				sum, begun = balanceOf(g, cell), true
			}
		}
		leak, code := impl.LeakOf(g)
		wantResult(t, "many grounds", leak, code, minus(0, sum), impl.OK)
	}
}
