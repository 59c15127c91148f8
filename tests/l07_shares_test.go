package tests

import (
	"fmt"
	"math"
	"math/rand"
	"slices"
	"testing"

	"loop.example/g01288/impl"
)

// wrongPercents are those by which permits can't be scaled.
var wrongPercents = []int64{-1, 101, 256, 1 << 32, 1<<32 + 50, math.MaxInt64, math.MinInt64}

func wantScaled(t *testing.T, list []impl.Permit, percent int64, want []impl.Permit, wantedCode int64) {
	t.Helper()
	scaled, code := impl.ScaledPermits(list, percent)
	wantPermits(t, fmt.Sprint("ScaledPermits of ", list[:min(len(list), 9)], " by ", percent), scaled, code, want, wantedCode)
}

func TestScaledPermits(t *testing.T) {
	for _, c := range []struct {
		percent     int64
		rates, want []int16
	}{
		{50, []int16{7}, []int16{3}},
		{50, []int16{8, 9, 1, 0, 2, 399}, []int16{4, 4, 0, 0, 1, 199}},
		{0, []int16{400, 7, 1}, []int16{0, 0, 0}},
		{100, []int16{400, 7, 1, 0}, []int16{400, 7, 1, 0}},
		{99, []int16{400, 100, 99, 1}, []int16{396, 99, 98, 0}},
		{1, []int16{400, 100, 99, 200, 199, 399}, []int16{4, 1, 0, 2, 1, 3}},
		{33, []int16{3, 4, 100, 300, 301, 304}, []int16{0, 1, 33, 99, 99, 100}},
		{67, []int16{1, 2, 3, 150, 149, 400}, []int16{0, 1, 2, 100, 99, 268}},
		{29, []int16{100, 300, 400}, []int16{29, 87, 116}},
	} {
		wantScaled(t, permitsAt(8, c.rates...), c.percent, permitsAt(8, c.want...), impl.OK)
	}
	for percent := range int64(101) {
		wantScaled(t, nil, percent, nil, impl.OK)
		wantScaled(t, []impl.Permit{}, percent, nil, impl.OK)
		for rate := range int16(impl.MaxRate + 1) {
			list := permitsAt(8, rate)
			wantScaled(t, list, percent, scaledOf(list, percent), impl.OK)
		}
	}
}

func TestScaledPermitsKeepTheRest(t *testing.T) {
	// Owners and cells may be any here.
	list := permitsOf(-128, 127, 400, 127, -128, 3, 0, 0, 0, 8, 64, 1, -1, -1, 99, 7, 63, 100)
	want := permitsOf(-128, 127, 300, 127, -128, 2, 0, 0, 0, 8, 64, 0, -1, -1, 74, 7, 63, 75)
	before := slices.Clone(list)
	wantScaled(t, list, 75, want, impl.OK)
	if !slices.Equal(list, before) {
		t.Errorf("the permits have become %v", list)
	}
}

func TestScaledPermitsErrors(t *testing.T) {
	for _, broken := range badRates() {
		for _, percent := range append([]int64{0, 50, 100}, wrongPercents...) {
			wantScaled(t, broken.list, percent, nil, impl.ErrInvalid)
		}
	}
	for _, list := range [][]impl.Permit{nil, {}, permitsAt(8, 400), permitsAt(8, 1, 2, 3, 4, 5, 6), permitsOf(-1, -1, 0)} {
		for _, percent := range wrongPercents {
			wantScaled(t, list, percent, nil, impl.ErrRange)
		}
	}
}

func TestGreatestPercent(t *testing.T) {
	for _, c := range []struct {
		most  int64
		rates []int16
		want  int64
	}{
		{0, nil, 100},
		{7, []int16{7}, 100},
		{8, []int16{7}, 100},
		{6, []int16{7}, 99},
		{5, []int16{7}, 85},
		{3, []int16{7}, 57},
		{0, []int16{7}, 14},
		{0, []int16{0, 0}, 100},
		{0, []int16{1}, 99},
		{0, []int16{100}, 0},
		{0, []int16{99}, 1},
		{0, []int16{400}, 0},
		{4, []int16{400}, 1},
		{3, []int16{400}, 0},
		{200, []int16{400}, 50},
		{203, []int16{400}, 50},
		{204, []int16{400}, 51},
		{399, []int16{400}, 99},
		{8, []int16{7, 9}, 57},
		{2399, []int16{400, 400, 400, 400, 400, 400}, 99},
		{24, []int16{400, 400, 400, 400, 400, 400}, 1},
		{23, []int16{400, 400, 400, 400, 400, 400}, 0},
	} {
		wantPercent(t, fmt.Sprint(c), wellOffice(t, c.most), permitsAt(8, c.rates...), c.want, impl.OK)
	}
}

func TestGreatestPercentWhereNothingIsNotKept(t *testing.T) {
	for _, list := range [][]impl.Permit{nil, permitsAt(8, 0), permitsAt(8, 400, 1)} {
		wantPercent(t, "never", neverOffice(t), list, 0, impl.ErrNotFound)
	}
	o := fallingOffice(t)
	wantPercent(t, "no permits", o, nil, 0, impl.ErrNotFound)
	wantPercent(t, "just enough", o, permitsAt(9, 8), 100, impl.OK)
	wantPercent(t, "not enough", o, permitsAt(9, 7), 0, impl.ErrNotFound)
	wantPercent(t, "too much, but not less", o, permitsAt(9, 10), 89, impl.OK)
	wantPercent(t, "two of them", o, permitsAt(9, 9, 1), 99, impl.OK)
	wantPercent(t, "too little, and then too much", o, permitsAt(9, 300, 300), 0, impl.ErrNotFound)
}

func TestGreatestPercentOfMany(t *testing.T) {
	r := rand.New(rand.NewSource(114))
	seen := map[int64]bool{}
	for i := range 60 {
		o, list := randomOffice(r)
		want, code := percentOf(o, list)
		wantPercent(t, fmt.Sprint("the office ", i), o, list, want, code)
		seen[want] = true
	}
	if len(seen) < 15 {
		t.Errorf("there are only %d percents", len(seen))
	}
}

func wantShares(t *testing.T, name string, list []impl.Permit, want [8]int64, wantedCode int64) {
	t.Helper()
	shares, code := impl.SharesOfOwners(list)
	wantCode(t, "SharesOfOwners, "+name, code, wantedCode)
	if shares != want {
		t.Errorf("SharesOfOwners, %s: %v, want %v", name, shares, want)
	}
}

func TestSharesOfOwners(t *testing.T) {
	wantShares(t, "nothing", nil, [8]int64{}, impl.OK)
	wantShares(t, "nothing", []impl.Permit{}, [8]int64{}, impl.OK)
	wantShares(t, "one owner", permitsOf(2, 9, 4, 2, 0, 3), [8]int64{2: 7}, impl.OK)
	wantShares(t, "the first and the last owner", permitsOf(0, 1, 400, 7, 1, 399, 0, 9, 1, 7, 9, 0), [8]int64{0: 401, 7: 399}, impl.OK)
	all := permitsOf(5, 1, 400, 5, 1, 400, 5, 1, 400, 5, 1, 400, 5, 1, 400, 5, 1, 400)
	wantShares(t, "as much as can be", all, [8]int64{5: 2400}, impl.OK)
	wantShares(t, "cells may be any", permitsOf(1, -128, 5, 3, 127, 6), [8]int64{1: 5, 3: 6}, impl.OK)
	for _, broken := range badLists() {
		wantShares(t, broken.name, broken.list, [8]int64{}, impl.ErrInvalid)
	}
	r := rand.New(rand.NewSource(115))
	for range 1000 {
		list := randomPermits(r, example(t), r.Intn(impl.MaxPermits+1))
		want := [8]int64{}
		for owner := range want {
			for _, p := range list {
				if int(p.Owner) == owner {
					want[owner] += int64(p.Rate)
				}
			}
		}
		wantShares(t, "random permits", list, want, impl.OK)
	}
}
