package tests

import (
	"fmt"
	"testing"

	"loop.example/g01288/impl"
)

// noteCodes returns codes, and what notes them by their names; it tells of results that are not nothing beside an error.
func noteCodes(t *testing.T) (map[string]int64, func(name string, code int64, results ...any)) {
	codes := map[string]int64{}
	return codes, func(name string, code int64, results ...any) {
		t.Helper()
		codes[name] = code
		for _, result := range results {
			if code != impl.OK && !isNothing(result) {
				t.Errorf("%s returns %v with the code %d", name, result, code)
			}
		}
	}
}

// settlingCodes returns the codes of the functions of chapter 2; it tells of results that are not nothing beside an error.
func settlingCodes(t *testing.T, g impl.Ground, cell, n int64, a float32) map[string]int64 {
	t.Helper()
	codes, note := noteCodes(t)
	head, code := impl.SettledHead(g, cell)
	note("SettledHead", code, head)
	for name, sweep := range sweeps {
		after, change, code := sweep(g)
		note(name, code, after, change)
	}
	after, change, code := impl.SweepColour(g, n)
	note("SweepColour", code, after, change)
	after, change, code = impl.RelaxedSweep(g, a)
	note("RelaxedSweep by a", code, after, change)
	after, made, code := impl.SettleGround(g, a, n)
	note("SettleGround", code, after, made)
	still, code := impl.IsStill(g, a)
	note("IsStill", code, still)
	path, code := impl.WaterPath(g, cell)
	note("WaterPath", code, path)
	basin, code := impl.BasinOf(g, cell)
	note("BasinOf", code, basin)
	after, changes, code := impl.PumpAt(g, cell, a, a, n)
	note("PumpAt", code, after, changes)
	after, code = impl.WarmUp(g, a)
	note("WarmUp", code, after)
	leak, code := impl.LeakOf(g)
	note("LeakOf", code, leak)
	for name, other := range map[string]impl.Ground{"itself": g, "a ground": example(t), "another size": even(t, 2, 2, 1, 0)} {
		for _, pair := range [][2]impl.Ground{{g, other}, {other, g}} {
			changes, code = impl.ChangesBetween(pair[0], pair[1])
			note("ChangesBetween with "+name, code, changes)
			at, change, code := impl.GreatestChange(pair[0], pair[1])
			note("GreatestChange with "+name, code, at, change)
		}
	}
	return codes
}

// isNothing reports whether a result is the zero value of its type, or an empty list.
func isNothing(result any) bool {
	switch list := result.(type) {
	case []int64:
		return len(list) == 0
	case []float32:
		return len(list) == 0
	case []impl.Well:
		return len(list) == 0
	case []impl.Reading:
		return len(list) == 0
	case []impl.Permit:
		return len(list) == 0
	}
	for _, nothing := range []any{impl.Ground{}, impl.Field{}, impl.Brine{}, impl.Well{}, impl.Aquifer{}, [8]int64{}, [64]int16{}, float32(0), int64(0), uint64(0), false} {
		if fmt.Sprintf("%T", result) == fmt.Sprintf("%T", nothing) {
			return textOf(result) == textOf(nothing)
		}
	}
	return false
}

func TestSettlingChecksGroundsFirst(t *testing.T) {
	for _, broken := range brokenGrounds(t) {
		for _, a := range []float32{0, 1, notANumber} {
			for name, code := range settlingCodes(t, broken.ground, -1, -1, a) {
				wantCode(t, name+" with "+broken.name, code, impl.ErrInvalid)
			}
		}
		for name, code := range settlingCodes(t, broken.ground, 0, 0, 0) {
			wantCode(t, name+" with "+broken.name, code, impl.ErrInvalid)
		}
	}
}

func TestSettlingChecksRangesNext(t *testing.T) {
	// Sweeps of this ground lead to none, and no sweep is made.
	g := example(t)
	g.Conduct[10], g.Gain[10] = least, 1
	for _, cell := range wrongCells {
		codes := settlingCodes(t, g, cell, 0, 0)
		for _, name := range []string{"SettledHead", "WaterPath", "BasinOf", "PumpAt"} {
			wantCode(t, name+" with a wrong cell", codes[name], impl.ErrRange)
		}
	}
	for _, a := range notPlain {
		codes := settlingCodes(t, g, 0, 0, a)
		for _, name := range []string{"RelaxedSweep by a", "SettleGround", "IsStill", "PumpAt", "WarmUp"} {
			wantCode(t, name+" with a number that is not plain", codes[name], impl.ErrRange)
		}
	}
	for _, n := range wrongBudgets {
		codes := settlingCodes(t, g, 0, n, 0)
		for _, name := range []string{"SweepColour", "SettleGround", "PumpAt"} {
			wantCode(t, name+" with a wrong number", codes[name], impl.ErrRange)
		}
	}
}

func TestSettlingChecksStatesLast(t *testing.T) {
	g := example(t)
	g.Conduct[10], g.Gain[10] = least, 1
	codes := settlingCodes(t, g, 10, 1, 0)
	for _, name := range []string{"SettledHead", "StepAtOnce", "SweepInOrder", "SweepBoth", "SweepColour", "RelaxedSweep", "RelaxedSweep by a", "SettleGround", "IsStill", "PumpAt"} {
		wantCode(t, name+" to no ground", codes[name], impl.ErrState)
	}
	for _, name := range []string{"WaterPath", "BasinOf", "WarmUp", "LeakOf", "ChangesBetween with itself", "GreatestChange with itself"} {
		wantCode(t, name+" of a ground that would burst", codes[name], impl.OK)
	}
	for _, name := range []string{"ChangesBetween with another size", "GreatestChange with another size"} {
		wantCode(t, name, codes[name], impl.ErrState)
	}
	codes = settlingCodes(t, g, 10, 0, 0)
	for _, name := range []string{"SettleGround", "PumpAt"} {
		wantCode(t, name+" without a sweep", codes[name], impl.ErrBudget)
	}
	g.Gain[10] = -impl.MaxSize
	codes = settlingCodes(t, g, 10, 0, 2)
	wantCode(t, "PumpAt without a sweep, for a gain that is not plain", codes["PumpAt"], impl.ErrState)
}

func TestSecondGroundIsChecked(t *testing.T) {
	for _, a := range []impl.Ground{example(t), even(t, 2, 2, 1, 0)} {
		for _, broken := range brokenGrounds(t) {
			wantChanges(t, "to one with "+broken.name, a, broken.ground, impl.Field{}, impl.ErrInvalid)
			wantChanges(t, "from one with "+broken.name, broken.ground, a, impl.Field{}, impl.ErrInvalid)
			wantGreatest(t, "to one with "+broken.name, a, broken.ground, 0, 0, impl.ErrInvalid)
			wantGreatest(t, "from one with "+broken.name, broken.ground, a, 0, 0, impl.ErrInvalid)
		}
	}
}
