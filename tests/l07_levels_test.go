package tests

import (
	"fmt"
	"math/rand"
	"slices"
	"testing"

	"loop.example/g01288/impl"
)

// headsWith is the well field with other gains and heads of the cells 8 and 10.
func headsWith(t *testing.T, gains, heads [2]float32) impl.Ground {
	t.Helper()
	g := wellField(t)
	g.Gain[8], g.Gain[10] = gains[0], gains[1]
	g.Heads[8], g.Heads[10] = heads[0], heads[1]
	return g
}

func TestGroundWith(t *testing.T) {
	o := watching(wellField(t), impl.Watch{Cell: 8, Level: -1}, impl.Watch{Cell: 10, Level: 5}, impl.Watch{Cell: 8, Level: 7}, impl.Watch{})
	wantWith(t, "no permits", o, nil, wellField(t), impl.OK)
	wantWith(t, "a permit", o, permitsAt(8, 7), headsWith(t, [2]float32{-1.75, 0}, [2]float32{-1.75, 0}), impl.OK)
	wantWith(t, "two permits at a cell", o, permitsAt(8, 3, 5), headsWith(t, [2]float32{-2, 0}, [2]float32{-2, 0}), impl.OK)
	both := append(permitsAt(10, 1), permitsAt(8, 2, 400)...)
	wantWith(t, "permits at two cells", o, both, headsWith(t, [2]float32{-100.5, -0.25}, [2]float32{-100.5, -0.25}), impl.OK)
	all := permitsAt(10, 400, 400, 400, 400, 400, 400)
	wantWith(t, "as many as can be of as much as can be", o, all, headsWith(t, [2]float32{0, -600}, [2]float32{0, -600}), impl.OK)
	o.Ground.Gain[8], o.Ground.Heads[8] = 5, 77
	wantWith(t, "a gain that was there", o, permitsAt(8, 8), headsWith(t, [2]float32{3, 0}, [2]float32{3, 0}), impl.OK)
	o.Ground.Gain[8] = negativeZero
	want := headsWith(t, [2]float32{negativeZero, 0}, [2]float32{0, 0})
	wantWith(t, "-0 without permits", o, nil, want, impl.OK)
	wantWith(t, "-0 less 0", o, permitsAt(8, 0, 0), want, impl.OK)
	o.Watches = nil
	wantWith(t, "no watches", o, permitsAt(8, 0), want, impl.OK)
}

func TestGroundWithAtFixedCells(t *testing.T) {
	o := watching(wellField(t), impl.Watch{Cell: 2, Level: 0})
	o.Ground.Heads[2], o.Ground.Gain[2] = 3, 100
	want := o.Ground
	want.Gain[2], want.Heads[10] = 0, 3
	wantWith(t, "at a fixed cell", o, permitsAt(2, 400), want, impl.OK)
	want.Gain[2] = -500
	wantWith(t, "as much as can be at a fixed cell", o, permitsAt(2, 400, 400, 400, 400, 400, 400), want, impl.OK)
	wantBelow(t, "at a fixed cell", o, permitsAt(2, 400, 400, 400, 400, 400, 400), 0, 0, impl.ErrNotFound)
	dry := watching(even(t, 2, 2, 0, 0), impl.Watch{Cell: 9, Level: 0})
	want = dry.Ground
	want.Gain[9] = -100
	wantWith(t, "at a dry cell", dry, permitsAt(9, 400), want, impl.OK)
}

func TestGroundWithIsSettled(t *testing.T) {
	for i, g := range calmGrounds(60) {
		o := watching(g, impl.Watch{}, impl.Watch{Cell: 8}, impl.Watch{Cell: 1})
		want, _, code := impl.SettleGround(g, 1.0/1024, 1000)
		wantWith(t, fmt.Sprint("no permits, the ground ", i), o, nil, want, code)
		wantWith(t, fmt.Sprint("a rate of 0, the ground ", i), o, permitsAt(1, 0), want, code)
		pumped, _, code := impl.PumpAt(g, 9, 2.75, 1.0/1024, 1000)
		wantWith(t, fmt.Sprint("one permit, the ground ", i), o, permitsAt(9, 11), pumped, code)
	}
}

func TestGroundWithin(t *testing.T) {
	// In each sweep all heads of this ground rise by half of the gain, for ever.
	g := rising(t, 2.0/1024)
	want := g
	want.Heads[9] = 1.0 / 1024
	wantWith(t, "just within", watching(g), nil, want, impl.OK)
	g.Gain[9] = 2.0/1024 + 1.0/1048576
	wantWith(t, "a little more than within", watching(g), nil, impl.Ground{}, impl.ErrBudget)
	g.Gain[9] = 1 + 2.0/1024
	wantWith(t, "just within, with a permit", watching(g), permitsAt(9, 4), want, impl.OK)
	wantWith(t, "more than within, with a permit", watching(g), permitsAt(9, 3), impl.Ground{}, impl.ErrBudget)
}

func TestGroundWithSweeps(t *testing.T) {
	for head, sweeps := range map[float32]int64{201: 1000, 202: 1001} {
		g := even(t, 8, 8, 1, head)
		g.Heads[0] = 0
		want, made, code := impl.SettleGround(g, 1.0/1024, 2000)
		wantCount(t, fmt.Sprint("sweeps from the head ", head), made, code, sweeps, impl.OK)
		if sweeps == 1000 {
			wantWith(t, "as many sweeps as can be", watching(g, impl.Watch{Cell: 63}), permitsAt(0, 9, 0), pumpedAt(want, 0, 2.25), impl.OK)
		} else {
			wantWith(t, "one sweep more", watching(g, impl.Watch{Cell: 63}), permitsAt(0, 9, 0), impl.Ground{}, impl.ErrBudget)
		}
	}
}

// pumpedAt returns the ground with a lesser gain at a cell, and the same heads.
func pumpedAt(g impl.Ground, cell int64, rate float32) impl.Ground {
	g.Gain[cell] = minus(g.Gain[cell], rate)
	return g
}

func TestGroundWithGains(t *testing.T) {
	o := watching(wellField(t), impl.Watch{Cell: 8, Level: -impl.MaxSize})
	o.Ground.Gain[8] = 100 - impl.MaxSize
	least := [2]float32{-impl.MaxSize, 0}
	wantWith(t, "the least gain", o, permitsAt(8, 400), headsWith(t, least, least), impl.OK)
	wantWith(t, "the least gain of two", o, permitsAt(8, 100, 0, 300), headsWith(t, least, least), impl.OK)
	for _, list := range [][]impl.Permit{permitsAt(8, 400, 1), permitsAt(8, 1, 400), permitsAt(8, 400, 400, 400), append(permitsAt(8, 400, 1), permitsAt(10, 0)...)} {
		wantWith(t, "less than the least gain", o, list, impl.Ground{}, impl.ErrState)
		wantBelow(t, "less than the least gain", o, list[:1], 0, 0, impl.ErrNotFound)
		at, less, code := impl.FirstBelow(o, list)
		wantIndex(t, "FirstBelow, less than the least gain", at, less, code, 0, 0, impl.ErrState)
		kept, code := impl.AreKept(o, list)
		wantYes(t, "AreKept, less than the least gain", kept, code, false, impl.OK)
	}
	o.Ground.Gain[3] = -impl.MaxSize
	wantWith(t, "at a fixed cell", o, permitsAt(3, 1), impl.Ground{}, impl.ErrState)
	o.Ground.Gain[3] = justAbove(-impl.MaxSize)
	wantWith(t, "a gain that is nearly the least one", o, permitsAt(3, 1), impl.Ground{}, impl.ErrState)
	// The gain is checked ahead of the heads, which would not settle.
	g := rising(t, 1)
	g.Gain[0] = -impl.MaxSize
	wantWith(t, "a gain that is none, of a ground that does not settle", watching(g), permitsAt(0, 1), impl.Ground{}, impl.ErrState)
	wantWith(t, "a ground that does not settle", watching(g), permitsAt(0, 0), impl.Ground{}, impl.ErrBudget)
}

func TestGroundWithDoesNotSettle(t *testing.T) {
	for _, c := range []struct {
		ground impl.Ground
		list   []impl.Permit
		code   int64
	}{
		{rising(t, 1), nil, impl.ErrBudget},
		{rising(t, 1), permitsAt(9, 8), impl.ErrBudget},
		{rising(t, 1), permitsAt(0, 4), impl.ErrBudget},
		{rising(t, impl.MaxSize), nil, impl.ErrState},
		{rising(t, impl.MaxSize), permitsAt(9, 400, 400), impl.ErrState},
		{bursting(t), nil, impl.ErrState},
		{bursting(t), permitsAt(1, 8), impl.ErrState},
	} {
		o := watching(c.ground, impl.Watch{Cell: 9, Level: -impl.MaxSize})
		wantWith(t, fmt.Sprint(c.list), o, c.list, impl.Ground{}, c.code)
		at, less, code := impl.FirstBelow(o, c.list)
		wantIndex(t, fmt.Sprint("FirstBelow ", c.list), at, less, code, 0, 0, c.code)
		kept, code := impl.AreKept(o, c.list)
		wantYes(t, fmt.Sprint("AreKept ", c.list), kept, code, false, impl.OK)
	}
	// What rises without an end, or bursts, is still when as much is taken as is gained.
	still, calm := rising(t, 1), bursting(t)
	still.Gain[9], calm.Gain[1] = 0, 0
	wantWith(t, "all is taken", watching(rising(t, 1)), permitsAt(9, 1, 3), still, impl.OK)
	wantWith(t, "all is taken", watching(bursting(t)), permitsAt(1, 4), calm, impl.OK)
}

func TestGroundWithRoundsPermitByPermit(t *testing.T) {
	r := rand.New(rand.NewSource(110))
	others := 0
	for range 2000 {
		o := watching(wellField(t), impl.Watch{Cell: 8})
		o.Ground.Gain[8] = float32(r.NormFloat64()) / float32(int64(1)<<(18+r.Intn(10)))
		list := permitsAt(8, int16(r.Intn(9)), int16(r.Intn(9)), int16(r.Intn(9)), int16(r.Intn(9)))
		want, code := withPermitsOf(o, list)
		wantWith(t, fmt.Sprint("the gain ", o.Ground.Gain[8], list), o, list, want, code)
		if minus(o.Ground.Gain[8], float32(ratesOf(list))/4) != want.Gain[8] {
			others++
		}
	}
	if others < 20 {
		t.Errorf("only %d gains depend on the roundings", others)
	}
}

func TestFirstBelow(t *testing.T) {
	o := watching(wellField(t), impl.Watch{Cell: 8, Level: -1.75}, impl.Watch{Cell: 10, Level: 0})
	wantBelow(t, "no permits", o, nil, 0, 0, impl.ErrNotFound)
	wantBelow(t, "just the level", o, permitsAt(8, 7), 0, 0, impl.ErrNotFound)
	wantBelow(t, "a little less", o, permitsAt(8, 8), 0, 0.25, impl.OK)
	wantBelow(t, "the other watch", o, permitsAt(10, 1), 1, 0.25, impl.OK)
	wantBelow(t, "both watches", o, append(permitsAt(10, 100), permitsAt(8, 9)...), 0, 0.5, impl.OK)
	o.Watches[0].Level = justAbove(-1.75)
	wantBelow(t, "a level just above", o, permitsAt(8, 7), 0, minus(justAbove(-1.75), -1.75), impl.OK)
	o.Watches[0].Level = justBelow(-1.75)
	wantBelow(t, "a level just below", o, permitsAt(8, 7), 0, 0, impl.ErrNotFound)
	o.Watches = nil
	wantBelow(t, "no watches", o, permitsAt(8, 400), 0, 0, impl.ErrNotFound)
}

func TestFirstBelowOfManyWatches(t *testing.T) {
	o := watching(wellField(t))
	for _, level := range []float32{-3, -2, -1, 0} {
		o.Watches = append(o.Watches, impl.Watch{Cell: 8, Level: level})
	}
	o.Watches = append(o.Watches, impl.Watch{Cell: 8, Level: -4}, impl.Watch{Cell: 12, Level: 7})
	for rate, want := range map[int16]int64{0: 5, 1: 3, 4: 3, 5: 2, 8: 2, 9: 1, 12: 1, 13: 0, 400: 0} {
		head := -float32(rate) / 4
		if want == 5 {
			head = 0
		}
		wantBelow(t, fmt.Sprint("the rate ", rate), o, permitsAt(8, rate), want, o.Watches[want].Level-head, impl.OK)
	}
	// The first watch is told, and not the one whose head is lowest.
	slices.Reverse(o.Watches)
	wantBelow(t, "the first watch", o, permitsAt(8, 400), 0, 7, impl.OK)
}

func TestFirstBelowOfZeros(t *testing.T) {
	dry := even(t, 2, 2, 0, 0)
	for _, head := range []float32{0, negativeZero} {
		for _, level := range []float32{0, negativeZero, -least} {
			dry.Heads[9] = head
			wantBelow(t, fmt.Sprint(head, " and ", level), watching(dry, impl.Watch{Cell: 9, Level: level}), nil, 0, 0, impl.ErrNotFound)
		}
		wantBelow(t, "the least level", watching(dry, impl.Watch{Cell: 9, Level: least}), nil, 0, least, impl.OK)
	}
	dry.Heads[9] = -impl.MaxSize
	wantBelow(t, "as far as can be", watching(dry, impl.Watch{Cell: 9, Level: impl.MaxSize}), nil, 0, 2*impl.MaxSize, impl.OK)
}

func TestLevelsOfMany(t *testing.T) {
	r := rand.New(rand.NewSource(111))
	codes := map[int64]int{}
	for i := range 400 {
		o, list := randomOffice(r)
		if i%10 == 0 {
			o.Ground = rising(t, float32(r.Intn(3)))
			list, o.Watches = randomPermits(r, o.Ground, 3), []impl.Watch{{Cell: 9, Level: float32(r.Intn(3) - 1)}}
		}
		if i%10 == 5 && len(list) > 0 {
			o.Ground.Gain[list[0].Cell] = -impl.MaxSize
		}
		want, code := withPermitsOf(o, list)
		wantWith(t, fmt.Sprint("the office ", i), o, list, want, code)
		at, missing, code := belowOf(o, list)
		gotAt, got, gotCode := impl.FirstBelow(o, list)
		wantIndex(t, fmt.Sprint("FirstBelow, the office ", i), gotAt, got, gotCode, at, missing, code)
		kept, keptCode := impl.AreKept(o, list)
		wantYes(t, fmt.Sprint("AreKept, the office ", i), kept, keptCode, code == impl.ErrNotFound, impl.OK)
		codes[code]++
	}
	wantAllCodes(t, "FirstBelow", codes, 10, impl.OK, impl.ErrNotFound, impl.ErrBudget, impl.ErrState)
}
