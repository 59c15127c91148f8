package tests

import (
	"fmt"
	"testing"

	"loop.example/g01288/impl"
)

// permitCall is what the functions of chapter 7 that have a code and an office are called with.
type permitCall struct {
	o       impl.Office
	list    []impl.Permit
	granted []int64
}

// permitResults calls these functions; it returns their codes, and tells of results that are not nothing beside an error.
func permitResults(t *testing.T, c permitCall) map[string]int64 {
	t.Helper()
	codes, note := noteCodes(t)
	g, code := impl.GroundWith(c.o, c.list)
	note("GroundWith", code, g)
	levels, code := impl.LevelsWith(c.o, c.list)
	note("LevelsWith", code, levels)
	at, missing, code := impl.FirstBelow(c.o, c.list)
	note("FirstBelow", code, at, missing)
	kept, code := impl.AreKept(c.o, c.list)
	note("AreKept", code, kept)
	granted, code := impl.GrantInOrder(c.o, c.list)
	note("GrantInOrder", code, granted)
	yes, code := impl.CheckGrant(c.o, c.list, c.granted)
	note("CheckGrant", code, yes)
	few, code := impl.FewestRefused(c.o, c.list)
	note("FewestRefused", code, few)
	most, sum, code := impl.MostWater(c.o, c.list)
	note("MostWater", code, most, sum)
	percent, code := impl.GreatestPercent(c.o, c.list)
	note("GreatestPercent", code, percent)
	return codes
}

// wantPermitCodes checks the codes of all functions; those that are not named are OK.
func wantPermitCodes(t *testing.T, what string, c permitCall, want map[string]int64) {
	t.Helper()
	for name, code := range permitResults(t, c) {
		wantCode(t, fmt.Sprint(name, " with ", what), code, want[name])
	}
}

func TestPermitsWithoutErrors(t *testing.T) {
	none := map[string]int64{"FirstBelow": impl.ErrNotFound}
	o := officeExample(t)
	for _, list := range [][]impl.Permit{nil, {}, {permitExample}} {
		wantPermitCodes(t, "permits that are kept", permitCall{o: o, list: list}, none)
	}
	wantPermitCodes(t, "some that are not kept", permitCall{o, []impl.Permit{permitExample, permitExample}, []int64{0}}, nil)
	wantPermitCodes(t, "MaxPermits, and a wrong list of granted ones", permitCall{o, permitsAt(9, 400, 400, 400, 400, 400, 400), []int64{-1}}, nil)
	o.Watches = nil
	wantPermitCodes(t, "no watches", permitCall{o: o, list: permitsAt(9, 400)}, none)
}

func TestPermitsCheckOfficesFirst(t *testing.T) {
	lists := [][]impl.Permit{nil, {permitExample}, {{Cell: -1}}, make([]impl.Permit, impl.MaxPermits+1)}
	for _, broken := range brokenOffices(t) {
		for _, list := range lists {
			for name, code := range permitResults(t, permitCall{broken.office, list, []int64{7}}) {
				wantCode(t, name+" with "+broken.name, code, impl.ErrInvalid)
			}
		}
	}
}

func TestPermitsCheckListsFirst(t *testing.T) {
	bursts, rises := bursting(t), rising(t, 1)
	offices := map[string]impl.Office{"the example": watching(example(t)), "nothing is kept": watching(example(t), impl.Watch{Level: 7})}
	for name, o := range offices {
		for _, broken := range badPermits() {
			for _, granted := range [][]int64{nil, {0}, {-1}} {
				for function, code := range permitResults(t, permitCall{o, broken.list, granted}) {
					wantCode(t, function+" with "+broken.name+", "+name, code, impl.ErrInvalid)
				}
			}
		}
	}
	for _, g := range []impl.Ground{bursts, rises} {
		for _, broken := range badLists() {
			for function, code := range permitResults(t, permitCall{o: watching(g), list: broken.list}) {
				wantCode(t, function+" with "+broken.name+", and no settled ground", code, impl.ErrInvalid)
			}
		}
	}
}

// never has the codes where no permits are kept.
func never(code int64) map[string]int64 {
	return map[string]int64{
		"GroundWith": code, "LevelsWith": code, "FirstBelow": code,
		"FewestRefused": impl.ErrNotFound, "MostWater": impl.ErrNotFound, "GreatestPercent": impl.ErrNotFound,
	}
}

func TestPermitsWithoutGround(t *testing.T) {
	for _, list := range [][]impl.Permit{nil, permitsAt(9, 0), permitsAt(0, 400, 1)} {
		for name, level := range map[string]float32{"a low level": -impl.MaxSize, "a level that is too high": impl.MaxSize} {
			watch := impl.Watch{Cell: 9, Level: level}
			wantPermitCodes(t, "no end, "+name, permitCall{o: watching(rising(t, 1), watch), list: list}, never(impl.ErrBudget))
			wantPermitCodes(t, "heads that burst, "+name, permitCall{o: watching(bursting(t), watch), list: list}, never(impl.ErrState))
		}
		wantPermitCodes(t, "levels that are too high", permitCall{o: neverOffice(t), list: list}, never(impl.OK))
	}
	o := watching(wellField(t))
	o.Ground.Gain[8] = -impl.MaxSize
	wantPermitCodes(t, "a gain that would not be plain", permitCall{o: o, list: permitsAt(8, 1)}, map[string]int64{
		"GroundWith": impl.ErrState, "LevelsWith": impl.ErrState, "FirstBelow": impl.ErrState,
	})
}
