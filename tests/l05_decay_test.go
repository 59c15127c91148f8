package tests

import (
	"fmt"
	"math"
	"math/rand"
	"testing"

	"loop.example/g01288/impl"
)

// wrongAmounts are numbers that are not plain, or less than 0.
var wrongAmounts = wrongSteps

func wantLeft(t *testing.T, a, keep float32, count int64, want float32, wantedCode int64) {
	t.Helper()
	left, code := impl.DecayedNumber(a, keep, count)
	wantResult(t, fmt.Sprint("DecayedNumber ", a, " ", keep, " ", count), left, code, want, wantedCode)
}

func wantGone(t *testing.T, a, keep float32, most, want, wantedCode int64) {
	t.Helper()
	gone, code := impl.GoneAfter(a, keep, most)
	wantCount(t, fmt.Sprint("GoneAfter ", a, " ", keep, " ", most), gone, code, want, wantedCode)
}

func TestDecayedNumber(t *testing.T) {
	for _, c := range []struct {
		a, keep float32
		times   int64
		want    float32
	}{
		{8, 0.5, 3, 1},
		{8, 0.5, 0, 8},
		{8, 1, impl.MaxMoves, 8},
		{8, 0, 0, 8},
		{8, 0, 1, 0},
		{8, 0, impl.MaxMoves, 0},
		{0, 0.5, 1, 0},
		{impl.MaxSize, 0.5, 20, 1},
		{impl.MaxSize, 1, 1, impl.MaxSize},
		{0.1, 0.1, 2, times(times(0.1, 0.1), 0.1)},
		// The signs of 0 are those of products.
		{negativeZero, 0.5, 0, negativeZero},
		{negativeZero, 0.5, impl.MaxMoves, negativeZero},
		{negativeZero, 0, 1, negativeZero},
		{1, negativeZero, 0, 1},
		{1, negativeZero, 1, negativeZero},
		{1, negativeZero, 2, 0},
		{1, negativeZero, 3, negativeZero},
		{1, negativeZero, impl.MaxMoves, 0},
		{negativeZero, negativeZero, 1, 0},
		{0, negativeZero, 1, negativeZero},
	} {
		wantLeft(t, c.a, c.keep, c.times, c.want, impl.OK)
	}
}

func TestDecayedNumberIsSubnormal(t *testing.T) {
	const normal = 1 << 23 // how many times the least number is the least normal one
	for _, c := range []struct {
		a, keep float32
		times   int64
		want    float32
	}{
		{1, 0.5, 126, normal * least},
		{1, 0.5, 127, normal / 2 * least},
		{1, 0.5, 149, least},
		{1, 0.5, 150, 0},
		{least, 0.5, 1, 0},
		{2 * least, 0.5, 1, least},
		{3 * least, 0.5, 1, 2 * least},
		{3 * least, 0.5, 2, least},
		{3 * least, 0.5, 3, 0},
		{5 * least, 0.5, 1, 2 * least},
		{7 * least, 0.5, 1, 4 * least},
		{(normal + 1) * least, 0.5, 1, normal / 2 * least},
		{(normal + 3) * least, 0.5, 1, (normal/2 + 2) * least},
		{least, justAbove(0.5), 1, least},
		{least, justAbove(0.5), impl.MaxMoves, least},
		{least, justBelow(0.5), 1, 0},
		{least, 0.75, impl.MaxMoves, least},
		{2 * least, 0.75, impl.MaxMoves, 2 * least},
		{3 * least, 0.75, impl.MaxMoves, 2 * least},
		{1, 0.75, impl.MaxMoves, 2 * least},
		{least, justBelow(1), impl.MaxMoves, least},
		{normal * least, justBelow(1), 1, normal * least},
		{2 * normal * least, justBelow(1), 1, 2*normal*least - least},
		{least, 1, impl.MaxMoves, least},
		{1, least, 1, least},
		{1, least, 2, 0},
		{0.5, least, 1, 0},
		{impl.MaxSize, least, 1, impl.MaxSize * least},
		{impl.MaxSize, least, 2, 0},
		{least, 0, 1, 0},
		{least, negativeZero, 1, negativeZero},
	} {
		wantLeft(t, c.a, c.keep, c.times, c.want, impl.OK)
	}
}

func TestGoneAfter(t *testing.T) {
	for _, c := range []struct {
		a, keep float32
		want    int64
	}{
		{1, 0.5, 150},
		{0, 1, 0},
		{0, 0, 0},
		{0, 0.5, 0},
		{negativeZero, 1, 0},
		{negativeZero, negativeZero, 0},
		{1, 0, 1},
		{1, negativeZero, 1},
		{impl.MaxSize, 0, 1},
		{impl.MaxSize, 0.5, 170},
		{least, 0, 1},
		{least, 0.5, 1},
		{least, justBelow(0.5), 1},
		{2 * least, 0.5, 2},
		{3 * least, 0.5, 3},
		{3 * least, justBelow(0.5), 2},
		{4 * least, 0.25, 2},
		{1, least, 2},
		{0.5, least, 1},
		{justAbove(0.5), least, 2},
		{1, 0.25, 75},
		{1, 1.0 / 1024, 15},
	} {
		wantGone(t, c.a, c.keep, c.want, c.want, impl.OK)
		wantGone(t, c.a, c.keep, impl.MaxMoves, c.want, impl.OK)
		if c.want > 0 {
			wantGone(t, c.a, c.keep, c.want-1, 0, impl.ErrBudget)
			wantGone(t, c.a, c.keep, 0, 0, impl.ErrBudget)
		}
	}
	for _, a := range []float32{least, 2 * least, 1e-40, 1, impl.MaxSize} {
		for _, keep := range []float32{1, justBelow(1), 0.75, justAbove(0.5)} {
			wantGone(t, a, keep, impl.MaxMoves, 0, impl.ErrBudget)
		}
	}
}

func TestDecayChecksRanges(t *testing.T) {
	for _, a := range wrongAmounts {
		wantLeft(t, a, 0.5, 1, 0, impl.ErrRange)
		wantLeft(t, a, 1, 0, 0, impl.ErrRange)
		wantGone(t, a, 0.5, 1000, 0, impl.ErrRange)
		wantGone(t, a, 0, 0, 0, impl.ErrRange)
	}
	for _, a := range []float32{0, 1} {
		for _, keep := range wrongShares {
			wantLeft(t, a, keep, 1, 0, impl.ErrRange)
			wantLeft(t, a, keep, 0, 0, impl.ErrRange)
			wantGone(t, a, keep, 1, 0, impl.ErrRange)
			wantGone(t, a, keep, 0, 0, impl.ErrRange)
		}
		for _, count := range wrongMoves {
			wantLeft(t, a, 0.5, count, 0, impl.ErrRange)
			wantGone(t, a, 0.5, count, 0, impl.ErrRange)
		}
	}
}

// wantDecayed checks DecaySalt against the decay of each number.
func wantDecayed(t *testing.T, b impl.Brine, keep float32, count int64) {
	t.Helper()
	want := b
	for _, cell := range cellsOf(b.Ground) {
		want.Salt[cell] = decayedOf(b.Salt[cell], keep, count)
	}
	after, code := impl.DecaySalt(b, keep, count)
	wantBrine(t, fmt.Sprint("DecaySalt ", keep, " ", count), after, code, want, impl.OK)
}

func TestDecaySalt(t *testing.T) {
	b := brineExample(t)
	b.Salt = impl.Field{0: 8, 1: 12, 2: negativeZero, 8: 3 * least, 9: negativeZero, 63: negativeZero}
	b.Spring = impl.Field{0: 8, 9: 8}
	after, code := impl.DecaySalt(b, 0.5, 2)
	wantSalt(t, "two halves, the fixed cell too", after, code, b, impl.Field{0: 2, 1: 3, 2: negativeZero, 8: least, 9: negativeZero, 63: negativeZero})
	after, code = impl.DecaySalt(b, negativeZero, 1)
	wantSalt(t, "the keep -0", after, code, b, impl.Field{0: negativeZero, 1: negativeZero, 2: negativeZero, 8: negativeZero, 63: negativeZero})
	if !impl.ValidBrine(after) {
		t.Error("a brine that has decayed is not valid")
	}
	for _, count := range []int64{0, 1, 2, 150, impl.MaxMoves} {
		for _, keep := range []float32{0, negativeZero, least, 0.25, 0.5, justAbove(0.5), 0.75, justBelow(1), 1} {
			wantDecayed(t, b, keep, count)
		}
	}
	for _, b := range randomBrines(200) {
		for _, keep := range []float32{negativeZero, 0.1, 0.5, 0.75, 1} {
			wantDecayed(t, b, keep, 3)
		}
	}
	for _, keep := range wrongShares {
		for _, count := range []int64{0, 1, impl.MaxMoves} {
			after, code := impl.DecaySalt(b, keep, count)
			wantBrine(t, fmt.Sprint("the keep ", keep), after, code, impl.Brine{}, impl.ErrRange)
		}
	}
	for _, count := range wrongMoves {
		after, code := impl.DecaySalt(b, 1, count)
		wantBrine(t, fmt.Sprint(count, " times"), after, code, impl.Brine{}, impl.ErrRange)
	}
}

// Promise 13: decay makes no number greater, and what is gone is gone at the time that is told.

// randomKeep returns a number from 0 to 1, often one at an edge.
func randomKeep(r *rand.Rand) float32 {
	if r.Intn(3) == 0 {
		return []float32{0, negativeZero, least, 0.25, 0.5, justBelow(0.5), justAbove(0.5), 0.75, justBelow(1), 1}[r.Intn(10)]
	}
	return r.Float32()
}

func TestPromise13DecayMakesNothingGreater(t *testing.T) {
	r := rand.New(rand.NewSource(64))
	for range 2000 {
		a, keep, count := randomAmount(r), randomKeep(r), int64(r.Intn(200))
		if r.Intn(3) == 0 {
			a = tinyAmount(r)
		}
		before := a
		for _, n := range []int64{0, 1, 2, count + 2, count + 3, impl.MaxMoves} {
			left, code := impl.DecayedNumber(a, keep, n)
			if code != impl.OK || !(left >= 0 && left <= before) {
				t.Fatalf("%v decays to %v behind %d times with %v, and has been %v, code %d", a, left, n, keep, before, code)
			}
			wantNumber(t, "DecayedNumber", left, decayedOf(a, keep, n))
			before = left
		}
		half, _ := impl.DecayedNumber(a, keep, count/2)
		rest, code := impl.DecayedNumber(half, keep, count-count/2)
		wantLeft(t, a, keep, count, rest, code)
	}
	for _, b := range randomBrines(200) {
		after, code := impl.DecaySalt(b, randomKeep(r), int64(r.Intn(30)))
		wantCode(t, "DecaySalt", code, impl.OK)
		for cell, salt := range after.Salt {
			if !(salt >= 0 && salt <= b.Salt[cell]) {
				t.Errorf("the salt %v decays to %v", b.Salt[cell], salt)
			}
		}
	}
}

func TestPromise13WhatIsGoneIsGone(t *testing.T) {
	r := rand.New(rand.NewSource(65))
	gone := 0
	for range 3000 {
		a, keep := randomAmount(r), randomKeep(r)
		if r.Intn(3) == 0 {
			a = tinyAmount(r)
		}
		most := int64(math.Pow(1001, r.Float64())) - 1
		n, code := impl.GoneAfter(a, keep, most)
		if code == impl.ErrBudget {
			if left, _ := impl.DecayedNumber(a, keep, most); n != 0 || !(left > 0) {
				t.Errorf("%v with %v is not gone behind %d, but %v is left", a, keep, most, left)
			}
			continue
		}
		left, leftCode := impl.DecayedNumber(a, keep, n)
		if code != impl.OK || leftCode != impl.OK || n > most || left != 0 {
			t.Errorf("%v with %v is gone behind %d of %d, code %d, but %v is left", a, keep, n, most, code, left)
		}
		if n > 0 {
			gone++
			if before, _ := impl.DecayedNumber(a, keep, n-1); !(before > 0) {
				t.Errorf("%v with %v is gone behind %d, but ahead of this it is %v", a, keep, n, before)
			}
		}
	}
	if gone < 500 {
		t.Errorf("only %d numbers have gone", gone)
	}
}
