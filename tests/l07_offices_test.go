package tests

import (
	"fmt"
	"testing"

	"loop.example/g01288/impl"
)

// brokenOffice is an office that is not valid, and what is wrong with it.
type brokenOffice struct {
	name   string
	office impl.Office
}

// brokenOffices returns offices of grounds 3 wide and 2 high that are not valid, each in one way.
func brokenOffices(t *testing.T) []brokenOffice {
	t.Helper()
	var list []brokenOffice
	for _, broken := range brokenGrounds(t) {
		list = append(list, brokenOffice{"a ground with " + broken.name, watching(broken.ground)})
	}
	good := impl.Watch{Cell: 1, Level: -5}
	for _, cell := range noCells {
		for _, watches := range [][]impl.Watch{{{Cell: cell}}, {{Cell: cell}, good}, {good, good, {Cell: cell}}} {
			list = append(list, brokenOffice{fmt.Sprint("a watch of ", cell), watching(example(t), watches...)})
		}
	}
	for _, level := range notPlain {
		for _, watches := range [][]impl.Watch{{{Level: level}}, {{Level: level}, good}, {good, good, {Cell: 10, Level: level}}} {
			list = append(list, brokenOffice{fmt.Sprint("the level ", level), watching(example(t), watches...)})
		}
	}
	for _, count := range []int{impl.MaxWatches + 1, 2 * impl.MaxWatches, 256, 100000} {
		list = append(list, brokenOffice{fmt.Sprint(count, " watches"), watching(example(t), make([]impl.Watch, count)...)})
	}
	return list
}

// brokenPermits are permits that are not valid for a ground 3 wide and 2 high, and what is wrong with them.
type brokenPermits struct {
	name string
	list []impl.Permit
}

// among returns permits with another one ahead, between, or behind.
func among(p impl.Permit) [][]impl.Permit {
	good := impl.Permit{Owner: 1, Cell: 1, Rate: 1}
	return [][]impl.Permit{{p}, {p, good}, {good, p, good}, {good, good, good, good, good, p}}
}

// badLists returns permits that are not valid for any ground: each has one owner or rate that is none, or there are too many.
func badLists() []brokenPermits {
	var list []brokenPermits
	for _, owner := range wrongOwners {
		for _, one := range among(impl.Permit{Owner: owner, Cell: 1, Rate: 1}) {
			list = append(list, brokenPermits{fmt.Sprint("the owner ", owner), one})
		}
	}
	return append(list, badRates()...)
}

// badRates returns those of them that have owners as they may be.
func badRates() []brokenPermits {
	var list []brokenPermits
	for _, rate := range wrongRates {
		for _, one := range among(impl.Permit{Owner: 1, Cell: 1, Rate: rate}) {
			list = append(list, brokenPermits{fmt.Sprint("the rate ", rate), one})
		}
	}
	for _, count := range []int{impl.MaxPermits + 1, 2 * impl.MaxPermits, 256, 100000} {
		list = append(list, brokenPermits{fmt.Sprint(count, " permits"), make([]impl.Permit, count)})
	}
	return list
}

// badPermits returns permits that are not valid for the ground of the example of chapter 1.
func badPermits() []brokenPermits {
	list := badLists()
	for _, cell := range noCells {
		for _, one := range among(impl.Permit{Owner: 1, Cell: cell, Rate: 1}) {
			list = append(list, brokenPermits{fmt.Sprint("the cell ", cell), one})
		}
	}
	return list
}

func wantValidOffice(t *testing.T, name string, o impl.Office) {
	t.Helper()
	if !impl.ValidOffice(o) {
		t.Errorf("an office with %s is not valid", name)
	}
}

func wantValidPermits(t *testing.T, name string, o impl.Office, list []impl.Permit) {
	t.Helper()
	if !impl.ValidPermits(o, list) {
		t.Errorf("permits with %s are not valid", name)
	}
}

func TestValidOffice(t *testing.T) {
	g := example(t)
	wantValidOffice(t, "no list", impl.Office{Ground: g})
	wantValidOffice(t, "no watches", impl.Office{Ground: g, Watches: []impl.Watch{}})
	for _, cell := range cellsOf(g) {
		wantValidOffice(t, fmt.Sprint("a watch of ", cell), watching(g, impl.Watch{Cell: int8(cell)}))
	}
	for _, level := range []float32{0, negativeZero, least, -least, 0.1, impl.MaxSize, -impl.MaxSize} {
		wantValidOffice(t, fmt.Sprint("the level ", level), watching(g, impl.Watch{Cell: 1, Level: level}))
	}
	for count := range impl.MaxWatches + 1 {
		wantValidOffice(t, fmt.Sprint(count, " watches of one cell"), watching(g, make([]impl.Watch, count)...))
	}
	wantValidOffice(t, "a watch of the last cell that there can be", watching(even(t, 8, 8, 1, 0), impl.Watch{Cell: 63}))
	for _, broken := range brokenOffices(t) {
		if impl.ValidOffice(broken.office) {
			t.Errorf("an office with %s is valid", broken.name)
		}
	}
	if impl.ValidOffice(impl.Office{}) {
		t.Error("the zero office is valid")
	}
	for _, g := range randomGrounds(100) {
		wantValidOffice(t, "a random ground", watching(g, impl.Watch{}))
	}
}

func TestValidPermits(t *testing.T) {
	o := watching(example(t), impl.Watch{Cell: 1, Level: 100})
	for _, none := range [][]impl.Permit{nil, {}} {
		wantValidPermits(t, "nothing", o, none)
	}
	for _, cell := range cellsOf(o.Ground) {
		wantValidPermits(t, fmt.Sprint("the cell ", cell), o, permitsAt(int8(cell), 1))
	}
	for owner := range int8(8) {
		wantValidPermits(t, fmt.Sprint("the owner ", owner), o, []impl.Permit{{Owner: owner}})
	}
	for rate := range int16(impl.MaxRate + 1) {
		wantValidPermits(t, fmt.Sprint("the rate ", rate), o, permitsAt(9, rate))
	}
	wantValidPermits(t, "MaxPermits at one cell", o, permitsAt(9, 400, 400, 400, 400, 400, 400))
	wantValidPermits(t, "MaxPermits of one owner", o, make([]impl.Permit, impl.MaxPermits))
	for _, broken := range badPermits() {
		if impl.ValidPermits(o, broken.list) {
			t.Errorf("permits with %s are valid", broken.name)
		}
	}
	for _, broken := range brokenOffices(t) {
		for _, list := range [][]impl.Permit{nil, {}, {{}}} {
			if impl.ValidPermits(broken.office, list) {
				t.Errorf("permits are valid at an office with %s", broken.name)
			}
		}
	}
}

func TestPermitsAreOfTheGround(t *testing.T) {
	wide, high := watching(even(t, 8, 2, 1, 0)), watching(even(t, 2, 8, 1, 0))
	for cell := range 256 {
		list := []impl.Permit{{Cell: int8(cell - 128)}}
		x, y := (cell-128)%8, (cell-128)/8
		for o, want := range map[*impl.Office]bool{&wide: x >= 0 && y >= 0 && y < 2, &high: x >= 0 && x < 2 && y >= 0 && y < 8} {
			if got := impl.ValidPermits(*o, list); got != want {
				t.Errorf("a permit for the cell %d is valid: %v", cell-128, got)
			}
			list := []impl.Watch{{Cell: int8(cell - 128)}}
			if got := impl.ValidOffice(watching(o.Ground, list...)); got != want {
				t.Errorf("a watch of the cell %d is valid: %v", cell-128, got)
			}
		}
	}
}
