package tests

import (
	"math/rand"
	"testing"

	"loop.example/g01288/impl"
)

// Promise 19, of all chapters: flows are opposite, drawdowns are added, salt is never less than nothing, and permits that are granted in order are kept, if nothing is, too.

func TestPromise19FlowsAreOpposite(t *testing.T) {
	r := rand.New(rand.NewSource(130))
	for range 100 {
		o, list := randomOffice(r)
		g, code := impl.GroundWith(o, list)
		if code != impl.OK {
			continue
		}
		for _, cell := range cellsOf(g) {
			for _, side := range sides {
				other, code := impl.BesideCell(g, cell, side)
				if code != impl.OK {
					continue
				}
				there, _ := impl.FlowFrom(g, cell, side)
				back, _ := impl.FlowFrom(g, other, (side+2)%4)
				if there != -back {
					t.Errorf("with permits %v flows from %d to %d, and %v back", there, cell, other, back)
				}
			}
		}
	}
}

func TestPromise19DrawdownsAreAdded(t *testing.T) {
	r := rand.New(rand.NewSource(131))
	for range 300 {
		a, wells := randomAquifer(r), randomWells(r, r.Intn(impl.MaxWells+1))
		x, y, time := randomPlace(r), randomPlace(r), randomMoment(r)
		want := float32(0)
		for i, w := range wells {
			drawdown, code := impl.DrawdownAt(a, w, x, y, time)
			wantCode(t, "DrawdownAt", code, impl.OK)
			if i == 0 {
				want = drawdown
			} else {
				want = plus(want, drawdown)
			}
		}
		sum, code := impl.SumAt(a, wells, x, y, time)
		wantResult(t, "the sum of the drawdowns", sum, code, want, impl.OK)
	}
}

func TestPromise19SaltIsNeverLessThanNothing(t *testing.T) {
	r := rand.New(rand.NewSource(132))
	looked := 0
	for range 200 {
		o, list := randomOffice(r)
		g, code := impl.GroundWith(o, list)
		if code != impl.OK {
			continue
		}
		// Salt moves in the ground with permits, too.
		b := saltBrine(r, g, randomAmount)
		step, code := impl.SafeStep(b)
		if code != impl.OK {
			continue
		}
		moved, movedCode := impl.MoveTimes(b, plus(step, step), 20)
		left, leftCode := impl.DecaySalt(b, randomKeep(r), 20)
		for _, c := range []struct {
			brine impl.Brine
			code  int64
		}{{moved, movedCode}, {left, leftCode}} {
			for _, cell := range cellsOf(g) {
				if c.code == impl.OK && !(c.brine.Salt[cell] >= 0) {
					t.Errorf("the salt of the cell %d is %v", cell, c.brine.Salt[cell])
				}
				looked++
			}
		}
	}
	if looked < 2000 {
		t.Errorf("only %d cells have been looked at", looked)
	}
}

func TestPromise19GrantedPermitsAreKept(t *testing.T) {
	r := rand.New(rand.NewSource(133))
	found := 0
	for range 150 {
		o, list := randomOffice(r)
		granted, code := impl.GrantInOrder(o, list)
		wantCode(t, "GrantInOrder", code, impl.OK)
		if nothing, _ := impl.AreKept(o, nil); nothing {
			kept, code := impl.AreKept(o, chosenOf(list, granted))
			wantYes(t, "what is granted in order", kept, code, true, impl.OK)
			found++
		}
	}
	if found < 50 {
		t.Errorf("only %d offices keep nothing", found)
	}
}
