package tests

import (
	"fmt"
	"math/rand"
	"slices"
	"testing"

	"loop.example/g01288/impl"
)

// fallingOffice is one whose ground settles only when at least 8 of the rates are taken at the cell 9, so that nothing is not kept.
func fallingOffice(t *testing.T) impl.Office {
	t.Helper()
	return watching(rising(t, 2), impl.Watch{Cell: 9, Level: 0})
}

// neverOffice is one at which no permits are kept, not even none.
func neverOffice(t *testing.T) impl.Office {
	t.Helper()
	return watching(wellField(t), impl.Watch{Cell: 2, Level: least})
}

func TestGrantInOrder(t *testing.T) {
	for _, c := range []struct {
		most  int64
		rates []int16
		want  []int64
	}{
		{8, nil, nil},
		{8, []int16{8}, []int64{0}},
		{8, []int16{9}, nil},
		{8, []int16{4, 4, 4}, []int64{0, 1}},
		{8, []int16{8, 4, 4}, []int64{0}},
		{8, []int16{4, 8, 4}, []int64{0, 2}},
		{8, []int16{9, 4, 5, 3, 2, 1}, []int64{1, 3, 5}},
		{8, []int16{0, 9, 0, 8, 0, 1}, []int64{0, 2, 3, 4}},
		{0, []int16{0, 0, 0, 0, 0, 0}, []int64{0, 1, 2, 3, 4, 5}},
		{0, []int16{1, 0, 400}, []int64{1}},
		{2400, []int16{400, 400, 400, 400, 400, 400}, []int64{0, 1, 2, 3, 4, 5}},
		{2399, []int16{400, 400, 400, 400, 400, 400}, []int64{0, 1, 2, 3, 4}},
		{2399, []int16{400, 400, 400, 400, 400, 399}, []int64{0, 1, 2, 3, 4, 5}},
		{399, []int16{400, 399, 1}, []int64{1}},
	} {
		wantGranted(t, fmt.Sprint(c), wellOffice(t, c.most), permitsAt(8, c.rates...), c.want...)
	}
}

func TestGrantInOrderOfCells(t *testing.T) {
	o := watching(wellField(t), impl.Watch{Cell: 8, Level: -1}, impl.Watch{Cell: 10, Level: -2}, impl.Watch{Cell: 8, Level: -3})
	list := []impl.Permit{{Cell: 10, Rate: 9}, {Cell: 8, Rate: 3}, {Cell: 10, Rate: 8}, {Cell: 8, Rate: 2}, {Cell: 12, Rate: 400}, {Cell: 3, Rate: 400}}
	wantGranted(t, "several cells", o, list, 1, 2, 4, 5)
	o.Watches = nil
	wantGranted(t, "no watches", o, list, 0, 1, 2, 3, 4, 5)
	wantGranted(t, "nothing can be kept", neverOffice(t), list)
	wantGranted(t, "no permits, and nothing can be kept", neverOffice(t), nil)
}

func TestGrantInOrderWhereNothingIsNotKept(t *testing.T) {
	o := fallingOffice(t)
	wantGranted(t, "enough at once", o, permitsAt(9, 8), 0)
	wantGranted(t, "not enough alone", o, permitsAt(9, 4, 4))
	wantGranted(t, "enough at last", o, permitsAt(9, 4, 8, 0), 1, 2)
	wantGranted(t, "too much behind it", o, permitsAt(9, 0, 8, 1, 400), 1)
	o.Watches[0].Level = -impl.MaxSize
	wantGranted(t, "more would never settle", o, permitsAt(9, 8, 8), 0)
	gain := watching(wellField(t))
	gain.Ground.Gain[8] = 50 - impl.MaxSize
	wantGranted(t, "a gain that would not be plain", gain, permitsAt(8, 201, 100, 101, 100, 0, 1), 1, 3, 4)
}

func TestCheckGrant(t *testing.T) {
	lists := append([][]int64{nil, {}, {0, 1}, {0, 2}, {1, 2}, {0, 1, 2}, {2}}, wrongIndices...)
	for name, o := range map[string]impl.Office{"some are kept": wellOffice(t, 8), "all are kept": wellOffice(t, 100), "nothing is kept": neverOffice(t)} {
		list := permitsAt(8, 4, 5, 4)
		want := grantedOf(o, list)
		for _, granted := range lists {
			yes, code := impl.CheckGrant(o, list, granted)
			wantYes(t, fmt.Sprint("CheckGrant, ", name, ", ", granted[:min(len(granted), 9)]), yes, code, slices.Equal(granted, want), impl.OK)
		}
		for _, granted := range [][]int64{{0}, {-1}, make([]int64, 7)} {
			yes, code := impl.CheckGrant(o, nil, granted)
			wantYes(t, fmt.Sprint("CheckGrant without permits ", granted), yes, code, false, impl.OK)
		}
	}
	o, list := wellOffice(t, 6), permitsAt(8, 1, 1, 1, 1, 1, 1)
	for length := range 8 {
		for _, last := range []int64{5, 6} {
			granted := []int64{0, 1, 2, 3, 4, 5, last}[:length]
			yes, code := impl.CheckGrant(o, list, granted)
			wantYes(t, fmt.Sprint("CheckGrant, all being kept, ", granted), yes, code, length == len(list), impl.OK)
		}
	}
}

func TestFewestRefused(t *testing.T) {
	for _, c := range []struct {
		most  int64
		rates []int16
		want  []int64
	}{
		{8, nil, nil},
		{8, []int16{9}, nil},
		{8, []int16{8, 4, 4}, []int64{1, 2}},
		{8, []int16{4, 4, 4}, []int64{0, 1}},
		{8, []int16{7, 3, 5, 1}, []int64{0, 3}},
		{8, []int16{8, 7, 6, 5, 4, 3}, []int64{3, 5}},
		{8, []int16{9, 8, 7, 6, 5, 4}, []int64{1}},
		{9, []int16{6, 5, 4, 3, 2, 1}, []int64{0, 4, 5}},
		{8, []int16{0, 9, 0, 8, 0, 1}, []int64{0, 2, 3, 4}},
		{8, []int16{1, 8, 0}, []int64{0, 2}},
		{0, []int16{1, 0, 400}, []int64{1}},
		{0, []int16{0, 0, 0, 0, 0, 0}, []int64{0, 1, 2, 3, 4, 5}},
		{2399, []int16{400, 400, 400, 400, 400, 400}, []int64{0, 1, 2, 3, 4}},
		{2400, []int16{400, 400, 400, 400, 400, 400}, []int64{0, 1, 2, 3, 4, 5}},
	} {
		wantFewest(t, fmt.Sprint(c), wellOffice(t, c.most), permitsAt(8, c.rates...), c.want, impl.OK)
	}
}

func TestMostWater(t *testing.T) {
	for _, c := range []struct {
		most  int64
		rates []int16
		want  []int64
		sum   int64
	}{
		{8, nil, nil, 0},
		{8, []int16{9}, nil, 0},
		{8, []int16{0, 0, 0}, nil, 0},
		{8, []int16{4, 4, 8}, []int64{2}, 8},
		{8, []int16{8, 4, 4}, []int64{0}, 8},
		{8, []int16{0, 8, 0}, []int64{1}, 8},
		{8, []int16{8, 8}, []int64{0}, 8},
		{8, []int16{7, 3, 5, 1}, []int64{0, 3}, 8},
		{8, []int16{5, 3, 6, 2}, []int64{0, 1}, 8},
		{8, []int16{1, 2, 5, 7, 1}, []int64{0, 3}, 8},
		{9, []int16{6, 4, 4}, []int64{1, 2}, 8},
		{10, []int16{7, 6, 4, 2, 2, 2}, []int64{1, 2}, 10},
		{11, []int16{4, 4, 4, 2, 2, 2}, []int64{0, 1, 3}, 10},
		{12, []int16{5, 5, 5, 3, 3, 3}, []int64{0, 3, 4}, 11},
		{2399, []int16{400, 400, 400, 400, 400, 400}, []int64{0, 1, 2, 3, 4}, 2000},
		{2400, []int16{400, 400, 400, 400, 400, 400}, []int64{0, 1, 2, 3, 4, 5}, 2400},
	} {
		wantMost(t, fmt.Sprint(c), wellOffice(t, c.most), permitsAt(8, c.rates...), c.want, c.sum, impl.OK)
	}
}

func TestChoicesWhereNothingIsNotKept(t *testing.T) {
	o := fallingOffice(t)
	two := permitsAt(9, 4, 3, 4)
	wantFewest(t, "two together", o, two, []int64{0, 2}, impl.OK)
	wantMost(t, "two together", o, two, []int64{0, 2}, 8, impl.OK)
	wantFewest(t, "one with nothing", o, permitsAt(9, 0, 8), []int64{0, 1}, impl.OK)
	wantMost(t, "one with nothing", o, permitsAt(9, 0, 8), []int64{1}, 8, impl.OK)
	for name, list := range map[string][]impl.Permit{"no permits": nil, "not enough": permitsAt(9, 4, 3), "too much": permitsAt(9, 9), "another cell": permitsAt(0, 8)} {
		wantFewest(t, name, o, list, nil, impl.ErrNotFound)
		wantMost(t, name, o, list, nil, 0, impl.ErrNotFound)
	}
	for _, list := range [][]impl.Permit{nil, permitsAt(8, 0), permitsAt(8, 1, 2, 3, 4, 5, 6)} {
		wantFewest(t, "never", neverOffice(t), list, nil, impl.ErrNotFound)
		wantMost(t, "never", neverOffice(t), list, nil, 0, impl.ErrNotFound)
	}
}

func TestChoicesOfCells(t *testing.T) {
	o := watching(wellField(t), impl.Watch{Cell: 8, Level: -1}, impl.Watch{Cell: 10, Level: -2})
	list := []impl.Permit{{Cell: 8, Rate: 4}, {Cell: 10, Rate: 9}, {Cell: 8, Rate: 3}, {Cell: 10, Rate: 8}, {Cell: 8, Rate: 1}, {Cell: 2, Rate: 7}}
	wantFewest(t, "several cells", o, list, []int64{2, 3, 4, 5}, impl.OK)
	wantMost(t, "several cells", o, list, []int64{0, 3, 5}, 19, impl.OK)
	o.Watches = nil
	wantFewest(t, "no watches", o, list, []int64{0, 1, 2, 3, 4, 5}, impl.OK)
	wantMost(t, "no watches", o, list, []int64{0, 1, 2, 3, 4, 5}, 32, impl.OK)
}

func TestGrantsOfRandomWells(t *testing.T) {
	r := rand.New(rand.NewSource(112))
	for i := range 300 {
		rates := make([]int16, r.Intn(impl.MaxPermits+1))
		for j := range rates {
			rates[j] = int16(r.Intn(8))
		}
		o, list := wellOffice(t, int64(r.Intn(20))), permitsAt(8, rates...)
		kept := keptLists(o, list)
		name := fmt.Sprint("the wells ", i, " ", o.Watches, list)
		wantGranted(t, name, o, list, grantedOf(o, list)...)
		few, _ := fewestOf(kept)
		wantFewest(t, name, o, list, few, impl.OK)
		most, sum, _ := mostOf(list, kept)
		wantMost(t, name, o, list, most, sum, impl.OK)
	}
}

func TestGrantsOfMany(t *testing.T) {
	r := rand.New(rand.NewSource(113))
	found := map[bool]int{}
	for i := range 80 {
		o, list := randomOffice(r)
		kept := keptLists(o, list)
		name := fmt.Sprint("the office ", i)
		granted, code := impl.GrantInOrder(o, list)
		wantIndices(t, "GrantInOrder, "+name, granted, code, grantedOf(o, list), impl.OK)
		yes, code := impl.CheckGrant(o, list, granted)
		wantYes(t, "CheckGrant, "+name, yes, code, true, impl.OK)
		want := int64(impl.OK)
		few, ok := fewestOf(kept)
		if !ok {
			want = impl.ErrNotFound
		}
		wantFewest(t, name, o, list, few, want)
		most, sum, _ := mostOf(list, kept)
		wantMost(t, name, o, list, most, sum, want)
		found[ok && len(few) < len(list)]++
	}
	if found[true] < 20 || found[false] < 10 {
		t.Errorf("these offices are too much alike: %v", found)
	}
}
