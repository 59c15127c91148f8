package tests

import (
	"math"
	"math/bits"
	"math/rand"
	"testing"

	"loop.example/g01288/impl"
)

// Promise 1: every function returns for all arguments, modifies none, and returns equal results for equal ones.

// settlingOf calls all functions of chapter 2, and returns what they return, as text.
func settlingOf(g, h impl.Ground, n [3]int64, a [2]float32) string {
	out := ""
	add := func(results ...any) { out += textOf(results...) }
	add(impl.SettledHead(g, n[0]))
	add(impl.StepAtOnce(g))
	add(impl.SweepInOrder(g))
	add(impl.SweepColour(g, n[1]))
	add(impl.SweepBoth(g))
	add(impl.RelaxedSweep(g, a[0]))
	add(impl.SettleGround(g, a[0], n[2]))
	add(impl.IsStill(g, a[0]))
	add(impl.ChangesBetween(g, h))
	add(impl.GreatestChange(g, h))
	add(impl.WaterPath(g, n[0]))
	add(impl.BasinOf(g, n[0]))
	add(impl.PumpAt(g, n[0], a[1], a[0], n[2]))
	add(impl.WarmUp(g, a[0]))
	add(impl.LeakOf(g))
	return out
}

func TestPromise1AllSettling(t *testing.T) {
	r := rand.New(rand.NewSource(4))
	numbers := append([]int64{0, 1, 2, 8, 9, 10, 63, 5, 100, impl.MaxSweeps, impl.MaxSweeps + 1}, wrongCells...)
	for i := range 1500 {
		g, h := anyGround(r), anyGround(r)
		if i%2 == 0 {
			g = calmGround(r)
		}
		n := [3]int64{}
		for i := range n {
			n[i] = numbers[r.Intn(len(numbers))]
		}
		a := [2]float32{oddNumbers[r.Intn(len(oddNumbers))], oddNumbers[r.Intn(len(oddNumbers))]}
		if r.Intn(2) == 0 {
			a[0] = float32(r.Float64())
		}
		g2, h2 := g, h
		first := settlingOf(g, h, n, a)
		if !sameGround(g, g2) || !sameGround(h, h2) {
			t.Fatal("an argument has been modified")
		}
		if second := settlingOf(g2, h2, n, a); first != second {
			t.Fatalf("equal arguments, other results:\n%s\n%s", first, second)
		}
	}
}

func TestPromise1PathsAreNew(t *testing.T) {
	g := line(t)
	first, _ := impl.WaterPath(g, 2)
	for i := range first[:cap(first)] {
		first[:cap(first)][i] = 99
	}
	wantPath(t, "a path that is not the one before", g, 2, 2, 1, 0)
}

// Promise 4: fixed heads stay; without a gain a settled head lies between those of the neighbours, nearly.

func TestPromise4FixedHeadsStay(t *testing.T) {
	kept := 0
	for _, g := range manyGrounds(150) {
		results := map[string]impl.Ground{}
		codes := map[string]int64{}
		for name, sweep := range sweeps {
			results[name], _, codes[name] = sweep(g)
		}
		results["SweepColour 0"], _, codes["SweepColour 0"] = impl.SweepColour(g, 0)
		results["SweepColour 1"], _, codes["SweepColour 1"] = impl.SweepColour(g, 1)
		results["RelaxedSweep 1.5"], _, codes["RelaxedSweep 1.5"] = impl.RelaxedSweep(g, 1.5)
		results["SettleGround"], _, codes["SettleGround"] = impl.SettleGround(g, 0.01, 200)
		results["PumpAt"], _, codes["PumpAt"] = impl.PumpAt(g, int64(bits.TrailingZeros64(g.Fixed)), 1, 0.01, 200)
		results["WarmUp"], codes["WarmUp"] = impl.WarmUp(g, 12)
		for name, after := range results {
			if codes[name] != impl.OK {
				continue
			}
			for _, cell := range cellsOf(g) {
				if g.Fixed>>cell&1 == 1 && !sameBits(after.Heads[cell], g.Heads[cell]) {
					t.Errorf("%s: the fixed cell %d has %v, and had %v", name, cell, after.Heads[cell], g.Heads[cell])
				}
				kept++
			}
			if after.Fixed != g.Fixed || !sameField(after.Conduct, g.Conduct) || name != "PumpAt" && !sameField(after.Gain, g.Gain) {
				t.Errorf("%s changes more than heads", name)
			}
		}
	}
	if kept < 10000 {
		t.Errorf("only %d cells have been looked at", kept)
	}
}

func TestPromise4SettledHeadsLieBetween(t *testing.T) {
	for _, g := range calmGrounds(300) {
		g.Gain = impl.Field{}
		for _, cell := range cellsOf(g) {
			low, high := math.Inf(1), math.Inf(-1)
			for _, side := range sides {
				other, code := impl.BesideCell(g, cell, side)
				if code == impl.OK && impl.JointOf(g.Conduct[cell], g.Conduct[other]) > 0 {
					low = min(low, float64(g.Heads[other]))
					high = max(high, float64(g.Heads[other]))
				}
			}
			if low > high || g.Fixed>>cell&1 == 1 {
				continue
			}
			head, code := impl.SettledHead(g, cell)
			if code != impl.OK || float64(head) < low-1e-3 || float64(head) > high+1e-3 {
				t.Errorf("the settled head %v (code %d) does not lie between %v and %v", head, code, low, high)
			}
		}
	}
}

// Promise 5: a ground that is settled is still, nearly, and has balances near 0 where it is fed.

func TestPromise5SettledGroundsAreStill(t *testing.T) {
	const within, slack = 0.001, 0.0001
	looked := 0
	for _, g := range calmGrounds(200) {
		settled, sweeps, code := impl.SettleGround(g, within, impl.MaxSweeps)
		if code == impl.ErrBudget || code == impl.ErrState {
			continue
		}
		wantCode(t, "SettleGround", code, impl.OK)
		if sweeps < 1 || sweeps > impl.MaxSweeps {
			t.Errorf("%d sweeps", sweeps)
		}
		still, code := impl.IsStill(settled, within+slack)
		wantStill(t, "a ground that is settled", still, code, true, impl.OK)
		fed, _ := impl.FedCells(settled)
		for _, cell := range cellsOf(settled) {
			if fed>>cell&1 == 0 || settled.Fixed>>cell&1 == 1 {
				continue
			}
			joints := 0.0
			for _, side := range sides {
				if other := besideOf(settled, cell, side); other >= 0 {
					joints += float64(jointOf(settled.Conduct[cell], settled.Conduct[other]))
				}
			}
			balance, code := impl.BalanceAt(settled, cell)
			if code != impl.OK || math.Abs(float64(balance)) > joints*(within+slack) {
				t.Errorf("the cell %d has the balance %v, code %d", cell, balance, code)
			}
			looked++
		}
	}
	if looked < 2000 {
		t.Errorf("only %d cells have settled", looked)
	}
}

func TestPromise5WhatIsPumpedComesIn(t *testing.T) {
	g := even(t, 5, 5, 2, 5)
	for _, cell := range cellsOf(g) {
		settled, changes, code := impl.PumpAt(g, cell, 1, 1e-6, impl.MaxSweeps)
		wantCode(t, "PumpAt", code, impl.OK)
		leak, code := impl.LeakOf(settled)
		if code != impl.OK || math.Abs(float64(leak)-1) > 0.01 && cell != 0 {
			t.Errorf("pumped is 1 at %d, and %v comes in", cell, leak)
		}
		for _, other := range cellsOf(g) {
			if changes[other] > 1e-5 {
				t.Errorf("pumping at %d lifts the head of %d by %v", cell, other, changes[other])
			}
		}
	}
}

// Promise 6: water goes from each cell to a neighbour with a lesser head; basins have all cells, each in one.

func TestPromise6WaterGoesDown(t *testing.T) {
	for _, g := range manyGrounds(200) {
		for _, cell := range cellsOf(g) {
			path, code := impl.WaterPath(g, cell)
			if code != impl.OK || len(path) == 0 || path[0] != cell {
				t.Fatalf("the path from %d is %v, code %d", cell, path, code)
			}
			for i, next := range path[1:] {
				beside := false
				for _, side := range sides {
					beside = beside || besideOf(g, path[i], side) == next
				}
				if !beside || !(g.Heads[next] < g.Heads[path[i]]) {
					t.Errorf("from %d water goes to %d, from the head %v to %v", path[i], next, g.Heads[path[i]], g.Heads[next])
				}
			}
			end := path[len(path)-1]
			for _, side := range sides {
				if flow, _ := impl.FlowFrom(g, end, side); flow > 0 {
					t.Errorf("the path ends at %d, from which %v flows on", end, flow)
				}
			}
		}
	}
}

func TestPromise6BasinsHaveAllCells(t *testing.T) {
	for _, g := range manyGrounds(100) {
		all := uint64(0)
		for _, cell := range cellsOf(g) {
			basin, code := impl.BasinOf(g, cell)
			wantCode(t, "BasinOf", code, impl.OK)
			if all&basin != 0 {
				t.Errorf("the basin %x of %d has cells of others, %x", basin, cell, all)
			}
			if basin != 0 && basin>>cell&1 == 0 {
				t.Errorf("the basin %x of %d is without it", basin, cell)
			}
			all |= basin
		}
		if want, _ := impl.CellsOf(g); all != want {
			t.Errorf("the basins have the cells %x, and not %x", all, want)
		}
	}
}

// The guarantee of chapter 2 that changes are the opposite in the other order.
func TestChangesAreOpposite(t *testing.T) {
	for _, a := range manyGrounds(200) {
		b := mixedHeads(a)
		there, code := impl.ChangesBetween(a, b)
		wantCode(t, "there", code, impl.OK)
		back, code := impl.ChangesBetween(b, a)
		wantCode(t, "back", code, impl.OK)
		for cell := range there {
			if there[cell] != -back[cell] {
				t.Errorf("the cell %d: there %v, and back %v", cell, there[cell], back[cell])
			}
		}
	}
}
