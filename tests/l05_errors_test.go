package tests

import (
	"fmt"
	"testing"

	"loop.example/g01288/impl"
)

// saltCall is what the functions of chapter 5 that have a code and a brine are called with.
type saltCall struct {
	b, other impl.Brine
	cell     int64
	step     float32
	times    int64
	level    float32
	keep     float32
	share    float32
}

// goodSalt is one of which no function has an error.
func goodSalt(t *testing.T) saltCall {
	t.Helper()
	return saltCall{b: brineExample(t), other: brineExample(t), cell: 9, step: 1, times: 3, level: 0.5, keep: 0.5, share: 0.5}
}

// saltResults calls these functions; it returns their codes, and tells of results that are not nothing beside an error.
func saltResults(t *testing.T, c saltCall) map[string]int64 {
	t.Helper()
	codes, note := noteCodes(t)
	a, code := impl.GoesOut(c.b, c.cell)
	note("GoesOut", code, a)
	a, code = impl.ComesIn(c.b, c.cell)
	note("ComesIn", code, a)
	a, code = impl.SafeStep(c.b)
	note("SafeStep", code, a)
	small, code := impl.IsSmallStep(c.b, c.step)
	note("IsSmallStep", code, small)
	after, code := impl.MoveSalt(c.b, c.step)
	note("MoveSalt", code, after)
	after, code = impl.MoveTimes(c.b, c.step, c.times)
	note("MoveTimes", code, after)
	a, code = impl.SaltIn(c.b)
	note("SaltIn", code, a)
	front, code := impl.FrontOf(c.b, c.level)
	note("FrontOf", code, front)
	n, code := impl.StepsUntil(c.b, c.step, c.cell, c.level, c.times)
	note("StepsUntil", code, n)
	after, code = impl.DecaySalt(c.b, c.keep, c.times)
	note("DecaySalt", code, after)
	after, code = impl.MixBrines(c.b, c.other, c.share)
	note("MixBrines", code, after)
	after, code = impl.MixBrines(c.other, c.b, c.share)
	note("MixBrines, the other way round", code, after)
	n, a, code = impl.SaltiestCell(c.b)
	note("SaltiestCell", code, n, a)
	after, code = impl.ReverseBrine(c.b)
	note("ReverseBrine", code, after)
	return codes
}

// wantSaltCodes checks the codes of all functions; those that are not named are OK.
func wantSaltCodes(t *testing.T, what string, c saltCall, want map[string]int64) {
	t.Helper()
	for name, code := range saltResults(t, c) {
		wantCode(t, fmt.Sprint(name, " with ", what), code, want[name])
	}
}

func TestSaltWithoutErrors(t *testing.T) {
	c := goodSalt(t)
	wantSaltCodes(t, "nothing wrong", c, nil)
	c.step, c.times, c.share, c.keep, c.level = 2.5, impl.MaxMoves, 1, 1, 2
	wantSaltCodes(t, "as much as may be", c, nil)
	c.step, c.times, c.share, c.keep, c.level = negativeZero, 0, negativeZero, negativeZero, -impl.MaxSize
	wantSaltCodes(t, "as little as may be", c, nil)
	c.times, c.level = 1, 1
	wantSaltCodes(t, "a level that is not there within most", c, map[string]int64{"StepsUntil": impl.ErrBudget})
	c = goodSalt(t)
	c.b.Ground.Heads[1] = 0
	c.level = 0
	wantSaltCodes(t, "still water", c, map[string]int64{"SafeStep": impl.ErrNotFound})
}

// worseSalts returns calls with errors that come behind ErrInvalid.
func worseSalts(c saltCall) []saltCall {
	list := []saltCall{c}
	for _, change := range []func(c *saltCall){
		func(c *saltCall) { c.cell = -1 },
		func(c *saltCall) { c.step = -1 },
		func(c *saltCall) { c.step = notANumber },
		func(c *saltCall) { c.times = -1 },
		func(c *saltCall) { c.times = impl.MaxMoves + 1 },
		func(c *saltCall) { c.level = notANumber },
		func(c *saltCall) { c.keep = 2 },
		func(c *saltCall) { c.share = 2 },
		func(c *saltCall) { c.other.Ground.Wide, c.other.Ground.High = 3, 3 },
	} {
		worse := c
		change(&worse)
		list = append(list, worse)
	}
	return list
}

func TestSaltChecksBrinesFirst(t *testing.T) {
	for _, broken := range brokenBrines(t) {
		for _, c := range worseSalts(goodSalt(t)) {
			c.b = broken.brine
			for name, code := range saltResults(t, c) {
				wantCode(t, name+" with "+broken.name, code, impl.ErrInvalid)
			}
		}
	}
}

func TestSaltChecksRangesNext(t *testing.T) {
	both := map[string]int64{"MoveSalt": impl.ErrRange, "MoveTimes": impl.ErrRange, "StepsUntil": impl.ErrRange}
	for _, step := range append([]float32{justAbove(2.5), impl.MaxSize}, wrongSteps...) {
		c := goodSalt(t)
		c.step = step
		wantSaltCodes(t, fmt.Sprint("the step ", step), c, both)
	}
	for _, times := range wrongMoves {
		c := goodSalt(t)
		c.times = times
		wantSaltCodes(t, fmt.Sprint("the number ", times), c, map[string]int64{"MoveTimes": impl.ErrRange, "StepsUntil": impl.ErrRange, "DecaySalt": impl.ErrRange})
	}
	for _, cell := range append([]int64{2, 10}, wrongCells...) {
		c := goodSalt(t)
		c.cell = cell
		wantSaltCodes(t, fmt.Sprint("the cell ", cell), c, map[string]int64{"GoesOut": impl.ErrRange, "ComesIn": impl.ErrRange, "StepsUntil": impl.ErrRange})
	}
	for _, level := range notPlain {
		c := goodSalt(t)
		c.level = level
		wantSaltCodes(t, fmt.Sprint("the level ", level), c, map[string]int64{"StepsUntil": impl.ErrRange})
	}
	for _, share := range wrongShares {
		c := goodSalt(t)
		c.share, c.keep = share, share
		wrong := map[string]int64{"MixBrines": impl.ErrRange, "MixBrines, the other way round": impl.ErrRange, "DecaySalt": impl.ErrRange}
		wantSaltCodes(t, fmt.Sprint("the share ", share), c, wrong)
		// It is checked ahead of the sizes of the grounds.
		c.other = impl.Brine{Ground: even(t, 3, 2, 1, 0), Room: 1}
		wantSaltCodes(t, fmt.Sprint("the share and other sizes ", share), c, wrong)
	}
}

func TestSaltChecksStatesNext(t *testing.T) {
	c := goodSalt(t)
	c.other = impl.Brine{Ground: even(t, 3, 2, 1, 0), Room: 1}
	wantSaltCodes(t, "other sizes", c, map[string]int64{"MixBrines": impl.ErrState, "MixBrines, the other way round": impl.ErrState})
	c = goodSalt(t)
	c.b = filling(t, 600000)
	c.step, c.level, c.times = 1, 900000, 2
	tooMuch := map[string]int64{"SafeStep": impl.ErrNotFound, "MoveTimes": impl.ErrState, "StepsUntil": impl.ErrState}
	wantSaltCodes(t, "too much salt", c, tooMuch)
	c.times, tooMuch["MoveTimes"], tooMuch["StepsUntil"] = 1, impl.OK, impl.ErrBudget
	wantSaltCodes(t, "too much salt, later", c, tooMuch)
	c.step, tooMuch["MoveSalt"], tooMuch["MoveTimes"] = 2, impl.ErrState, impl.ErrState
	tooMuch["StepsUntil"] = impl.ErrState
	wantSaltCodes(t, "too much salt, in a longer step", c, tooMuch)
	c.b.Ground.Gain[8] = -1
	c.step = 2
	wantSaltCodes(t, "too much salt, and a step that is not small", c, map[string]int64{"MoveSalt": impl.ErrRange, "MoveTimes": impl.ErrRange, "StepsUntil": impl.ErrRange})
	c = goodSalt(t)
	c.b, c.other = draining(t, least, 1, 1), draining(t, least, 1, 1)
	c.cell = 1
	wantSaltCodes(t, "a safe step that is not plain", c, map[string]int64{"SafeStep": impl.ErrState})
}
