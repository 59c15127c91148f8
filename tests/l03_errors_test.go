package tests

import (
	"fmt"
	"testing"

	"loop.example/g01288/impl"
)

// wellCall is what the functions of chapter 3 that have an aquifer are called with.
type wellCall struct {
	a     impl.Aquifer
	w     impl.Well
	wells []impl.Well
	x, y  int64
	time  int64
	stop  int64
	level float32
}

// goodCall is one of which no function has an error.
func goodCall() wellCall {
	return wellCall{a: unitAquifer, w: impl.Well{Rate: 5}, wells: []impl.Well{{Rate: 5}, {X: 4, Rate: -1}}, x: 1, y: 2, time: 10, stop: 4, level: 0}
}

// wellResults calls these functions; it returns their codes, and tells of results that are not nothing beside an error.
func wellResults(t *testing.T, c wellCall) map[string]int64 {
	t.Helper()
	codes, note := noteCodes(t)
	a, code := impl.ArgumentAt(c.a, c.w, c.x, c.y, c.time)
	note("ArgumentAt", code, a)
	a, code = impl.DrawdownAt(c.a, c.w, c.x, c.y, c.time)
	note("DrawdownAt", code, a)
	list, code := impl.DrawdownsAt(c.a, c.wells, c.x, c.y, c.time)
	note("DrawdownsAt", code, list)
	a, code = impl.SumAt(c.a, c.wells, c.x, c.y, c.time)
	note("SumAt", code, a)
	field, code := impl.FieldAfter(c.a, c.wells, c.time)
	note("FieldAfter", code, field)
	n, a, code := impl.StrongestWell(c.a, c.wells, c.x, c.y, c.time)
	note("StrongestWell", code, n, a)
	a, code = impl.RecoveryAt(c.a, c.w, c.x, c.y, c.stop, c.time)
	note("RecoveryAt", code, a)
	n, code = impl.TimeUntil(c.a, c.w, c.x, c.y, c.level, c.time)
	note("TimeUntil", code, n)
	n, code = impl.RadiusOf(c.a, c.w, c.time, c.level)
	note("RadiusOf", code, n)
	return codes
}

var (
	withOneWell      = []string{"ArgumentAt", "DrawdownAt", "RecoveryAt", "TimeUntil", "RadiusOf"}
	withSeveralWells = []string{"DrawdownsAt", "SumAt", "FieldAfter", "StrongestWell"}
	withPlace        = []string{"ArgumentAt", "DrawdownAt", "DrawdownsAt", "SumAt", "StrongestWell", "RecoveryAt", "TimeUntil"}
	withLevel        = []string{"TimeUntil", "RadiusOf"}
	withWells        = append(append([]string{}, withOneWell...), withSeveralWells...)
)

// wantCodes checks the codes of some functions.
func wantCodes(t *testing.T, what string, c wellCall, names []string, want int64) {
	t.Helper()
	codes := wellResults(t, c)
	for _, name := range names {
		wantCode(t, fmt.Sprint(name, " with ", what, ": ", c.a, c.w, len(c.wells), c.x, c.y, c.time, c.stop, c.level), codes[name], want)
	}
}

// worseCalls returns the call, and such ones with errors that come behind ErrInvalid.
func worseCalls(c wellCall) []wellCall {
	list := []wellCall{c}
	for _, change := range []func(c *wellCall){
		func(c *wellCall) { c.x = 101 },
		func(c *wellCall) { c.y = -101 },
		func(c *wellCall) { c.time = 0 },
		func(c *wellCall) { c.stop = impl.MaxMoment + 1 },
		func(c *wellCall) { c.level = impl.MaxSize },
	} {
		worse := c
		change(&worse)
		list = append(list, worse)
	}
	return list
}

func TestWellsWithoutErrors(t *testing.T) {
	c := goodCall()
	wantCodes(t, "nothing wrong", c, withWells, impl.OK)
	for _, a := range someAquifers {
		c.a = a
		wantCodes(t, "an aquifer at an edge", c, withWells, impl.OK)
	}
	for _, x := range []int64{-100, 100} {
		for _, y := range []int64{-100, 100} {
			c = goodCall()
			c.x, c.y = x, y
			wantCodes(t, "a place at an edge", c, withWells, impl.OK)
		}
	}
	for _, time := range []int64{1, impl.MaxMoment} {
		for _, stop := range []int64{1, impl.MaxMoment} {
			c = goodCall()
			c.time, c.stop = time, stop
			wantCodes(t, "a time at an edge", c, withWells, impl.OK)
		}
	}
	c = goodCall()
	c.wells = make([]impl.Well, impl.MaxWells)
	wantCodes(t, "twelve wells", c, withWells, impl.OK)
	c.level = -impl.MaxSize
	wantCodes(t, "the least level", c, withWells, impl.OK)
	c.level = impl.MaxSize
	wantCodes(t, "the greatest level", c, withLevel, impl.ErrNotFound)
}

func TestWellsCheckValidityFirst(t *testing.T) {
	for _, a := range wrongAquifers() {
		for _, c := range worseCalls(goodCall()) {
			c.a = a
			wantCodes(t, "a wrong aquifer", c, withWells, impl.ErrInvalid)
			c.wells = nil
			wantCodes(t, "a wrong aquifer, without wells", c, withSeveralWells, impl.ErrInvalid)
			c.wells = make([]impl.Well, 20)
			wantCodes(t, "a wrong aquifer, and twenty wells", c, withSeveralWells, impl.ErrInvalid)
		}
	}
	for _, w := range wrongWells() {
		for _, c := range worseCalls(goodCall()) {
			c.w, c.wells = w, []impl.Well{{Rate: 1}, w}
			wantCodes(t, "a wrong well", c, withWells, impl.ErrInvalid)
			c.wells = []impl.Well{w, {}}
			wantCodes(t, "a wrong first well", c, withSeveralWells, impl.ErrInvalid)
			c.wells = append(make([]impl.Well, 13), w)
			wantCodes(t, "a wrong last well of fourteen", c, withSeveralWells, impl.ErrInvalid)
		}
	}
	for _, level := range notPlain {
		for _, c := range worseCalls(goodCall()) {
			c.level = level
			wantCodes(t, "a wrong level", c, withLevel, impl.ErrInvalid)
		}
	}
}

func TestWellsCheckLimitsNext(t *testing.T) {
	for _, count := range []int{impl.MaxWells + 1, 100, 1000000} {
		for _, c := range worseCalls(goodCall()) {
			c.wells = make([]impl.Well, count)
			wantCodes(t, "too many wells", c, withSeveralWells, impl.ErrLimit)
		}
	}
}

func TestWellsCheckRangesLast(t *testing.T) {
	for _, wells := range [][]impl.Well{nil, {{}}, make([]impl.Well, 12)} {
		for _, n := range wrongPlaces {
			c := goodCall()
			c.wells, c.x, c.level = wells, n, impl.MaxSize
			wantCodes(t, "a wrong x", c, withPlace, impl.ErrRange)
			c.x, c.y = 0, n
			wantCodes(t, "a wrong y", c, withPlace, impl.ErrRange)
		}
		for _, n := range wrongMoments {
			c := goodCall()
			c.wells, c.time, c.level = wells, n, impl.MaxSize
			wantCodes(t, "a wrong time", c, withWells, impl.ErrRange)
			c.time, c.stop = 10, n
			wantCodes(t, "a wrong stop", c, []string{"RecoveryAt"}, impl.ErrRange)
			c.time, c.stop = n, n
			wantCodes(t, "a wrong time and stop", c, []string{"RecoveryAt"}, impl.ErrRange)
		}
	}
	c := goodCall()
	c.wells = nil
	wantCodes(t, "no wells", c, []string{"StrongestWell"}, impl.ErrNotFound)
	wantCodes(t, "no wells", c, []string{"DrawdownsAt", "SumAt", "FieldAfter"}, impl.OK)
}
