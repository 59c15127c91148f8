package tests

import (
	"fmt"
	"testing"

	"loop.example/g01288/impl"
)

func wantChanges(t *testing.T, name string, a, b impl.Ground, want impl.Field, wantedCode int64) {
	t.Helper()
	got, code := impl.ChangesBetween(a, b)
	wantCode(t, name, code, wantedCode)
	if !sameField(got, want) {
		t.Errorf("%s: changes %v, want %v", name, got, want)
	}
}

func wantGreatest(t *testing.T, name string, a, b impl.Ground, want int64, wantedChange float32, wantedCode int64) {
	t.Helper()
	cell, change, code := impl.GreatestChange(a, b)
	wantResult(t, name, change, code, wantedChange, wantedCode)
	if cell != want {
		t.Errorf("%s: the cell %d, want %d", name, cell, want)
	}
}

func TestChangesBetween(t *testing.T) {
	a, b := even(t, 3, 2, 2, 5), example(t)
	b.Heads[10] = -5
	wantChanges(t, "upwards and downwards", a, b, impl.Field{1: 1, 10: -10}, impl.OK)
	wantChanges(t, "in the other order", b, a, impl.Field{1: -1, 10: 10}, impl.OK)
	a.Heads[0], b.Heads[0] = 0, negativeZero
	a.Heads[2], b.Heads[2] = negativeZero, 0
	a.Heads[8], b.Heads[8] = least, 3*least
	a.Heads[9], b.Heads[9] = -impl.MaxSize, impl.MaxSize
	wantChanges(t, "numbers at edges", a, b, impl.Field{0: negativeZero, 1: 1, 8: 2 * least, 9: 2 * impl.MaxSize, 10: -10}, impl.OK)
	wantChanges(t, "-0 less -0", b, b, impl.Field{}, impl.OK)
	a.Heads[3], b.Heads[63] = negativeZero, negativeZero
	wantChanges(t, "no cells", a, a, impl.Field{}, impl.OK)
	wantChanges(t, "no cells, -0 less 0", even(t, 3, 2, 2, 5), example(t), impl.Field{1: 1}, impl.OK)
	// All but the heads may differ.
	c := example(t)
	c.Fixed, c.Conduct[0], c.Gain[9] = 4, 0, 7
	wantChanges(t, "other conductances, gains and fixed cells", even(t, 3, 2, 2, 5), c, impl.Field{1: 1}, impl.OK)
}

func TestGreatestChange(t *testing.T) {
	a, b := even(t, 3, 2, 2, 5), even(t, 3, 2, 2, 5)
	wantGreatest(t, "no change", a, b, 0, 0, impl.OK)
	b.Heads[2], b.Heads[9], b.Heads[10] = 3, 7, 3
	wantGreatest(t, "the first one of the same size, less than 0", a, b, 2, -2, impl.OK)
	wantGreatest(t, "the first one of the same size, greater than 0", b, a, 2, 2, impl.OK)
	b.Heads[10] = justBelow(3)
	wantGreatest(t, "the last cell", a, b, 10, justBelow(3)-5, impl.OK)
	b = example(t)
	a.Heads[0], b.Heads[0] = 0, negativeZero
	wantGreatest(t, "an increase", a, b, 1, 1, impl.OK)
	b.Heads[1] = 5
	wantGreatest(t, "the change -0 at the first cell", a, b, 0, negativeZero, impl.OK)
	b.Heads[8] = justAbove(5)
	wantGreatest(t, "a small change", a, b, 8, justAbove(5)-5, impl.OK)
}

func TestChangesOfMany(t *testing.T) {
	list := manyGrounds(300)
	for _, a := range list {
		for _, b := range []impl.Ground{list[0], list[1], mixedHeads(a)} {
			want, wantedCode := impl.Field{}, int64(impl.OK)
			at := int64(0)
			if a.Wide != b.Wide || a.High != b.High {
				wantedCode = impl.ErrState
			} else {
				for _, cell := range cellsOf(a) {
					want[cell] = minus(b.Heads[cell], a.Heads[cell])
					if sizeOf(want[cell]) > sizeOf(want[at]) {
						at = cell
					}
				}
			}
			wantChanges(t, "many changes", a, b, want, wantedCode)
			wantGreatest(t, "many changes", a, b, at, want[at], wantedCode)
		}
	}
}

func sizeOf(a float32) float32 {
	if a < 0 {
		return -a
	}
	return a
}

// mixedHeads is the ground whose cells have their heads in the opposite order.
func mixedHeads(g impl.Ground) impl.Ground {
	cells := cellsOf(g)
	mixed := g
	for i, cell := range cells {
		mixed.Heads[cell] = g.Heads[cells[len(cells)-1-i]]
	}
	return mixed
}

func TestChangesOfOtherSizes(t *testing.T) {
	a := even(t, 3, 4, 2, 5)
	for _, b := range []impl.Ground{even(t, 4, 4, 2, 5), even(t, 3, 3, 2, 5), even(t, 4, 3, 2, 5), even(t, 8, 8, 2, 5)} {
		wantChanges(t, "another size", a, b, impl.Field{}, impl.ErrState)
		wantChanges(t, "another size", b, a, impl.Field{}, impl.ErrState)
		wantGreatest(t, "another size", a, b, 0, 0, impl.ErrState)
		wantGreatest(t, "another size", b, a, 0, 0, impl.ErrState)
	}
}

func wantPath(t *testing.T, name string, g impl.Ground, cell int64, want ...int64) {
	t.Helper()
	got, code := impl.WaterPath(g, cell)
	wantCode(t, name, code, impl.OK)
	if fmt.Sprint(got) != fmt.Sprint(want) {
		t.Errorf("%s: from %d goes %v, want %v", name, cell, got, want)
	}
}

func TestWaterPathSides(t *testing.T) {
	// From the cell 9 as much flows to all sides that have the head 0.
	for _, c := range []struct {
		heads [4]float32
		next  int64
	}{
		{[4]float32{0, 0, 0, 0}, 1},
		{[4]float32{1, 0, 0, 0}, 10},
		{[4]float32{1, 1, 0, 0}, 17},
		{[4]float32{1, 1, 1, 0}, 8},
		{[4]float32{0, 1, 0, 1}, 1},
		{[4]float32{2, 0, 2, 0}, 10},
		{[4]float32{0.5, 0.25, 0, 0.25}, 17},
		{[4]float32{0.5, 0.25, 0.25, -1}, 8},
	} {
		g := around(t, 5, c.heads)
		g.Heads[9] = 1
		// Nothing flows on to the corners.
		g.Heads[0], g.Heads[2], g.Heads[16], g.Heads[18] = 3, 3, 3, 3
		wantPath(t, "the least side of those with the most", g, 9, 9, c.next)
	}
	level := around(t, 0, [4]float32{1, 1, 2, 1})
	level.Heads[9] = 1
	wantPath(t, "no lesser head", level, 9, 9)
	level.Heads[1], level.Heads[9] = negativeZero, 0
	wantPath(t, "-0 is no lesser head", level, 9, 9)
}

func TestWaterPathFlows(t *testing.T) {
	g := around(t, 0, [4]float32{0, 4, 0, 0})
	g.Heads[9] = 5
	g.Conduct[1], g.Conduct[17], g.Conduct[8] = 0, 0.01, 0
	g.Heads[0], g.Heads[2], g.Heads[16], g.Heads[18] = 9, 9, 9, 9
	wantPath(t, "most flows to the head that is less by little", g, 9, 9, 10)
	g.Conduct[17] = 0.2
	wantPath(t, "most flows to the head that is less by much", g, 9, 9, 17)
	g.Conduct[10], g.Conduct[17] = 0, 0
	wantPath(t, "dry neighbours", g, 9, 9)
	wantPath(t, "from a dry cell", g, 10, 10)
	tiny := even(t, 2, 2, 3e-20, 0)
	tiny.Heads[9] = 1e-30
	wantPath(t, "a flow that is rounded to 0", tiny, 9, 9)
	tiny.Heads[9] = 1e-20
	wantPath(t, "a subnormal flow", tiny, 9, 9, 1)
	great := even(t, 8, 8, impl.MaxSize, -impl.MaxSize)
	great.Heads[63] = impl.MaxSize
	wantPath(t, "as much as can be", great, 63, 63, 55)
	// Fixed cells are passed as others are.
	slope := line(t)
	wantPath(t, "to a fixed cell", slope, 2, 2, 1, 0)
	slope.Fixed = 2
	wantPath(t, "over a fixed cell", slope, 2, 2, 1, 0)
}

// winding is a ground with a long wet way, from the cell 0 to the cell 56, on which heads become less and less.
func winding(t *testing.T) (impl.Ground, []int64) {
	t.Helper()
	way := []int64{}
	for y := int64(0); y < 8; y += 4 {
		for x := int64(0); x < 8; x++ {
			way = append(way, x+8*y)
		}
		way = append(way, 7+8*(y+1))
		for x := int64(7); x >= 0; x-- {
			way = append(way, x+8*(y+2))
		}
		way = append(way, 8*(y+3))
	}
	g := even(t, 8, 8, 0, 0)
	for i, cell := range way {
		g.Conduct[cell] = 1
		g.Heads[cell] = float32(100 - i)
	}
	return g, way
}

func TestLongWaterPath(t *testing.T) {
	g, way := winding(t)
	all := uint64(0)
	for i, cell := range way {
		wantPath(t, "a long way", g, cell, way[i:]...)
		all |= 1 << cell
	}
	wantBasin(t, "the end of a long way", g, 56, all)
	wantBasin(t, "the middle of a long way", g, 16, 0)
	wantBasin(t, "a dry cell beside it", g, 8, 1<<8)
}

func TestWaterPathsOfMany(t *testing.T) {
	for _, g := range manyGrounds(300) {
		for _, cell := range cellsOf(g) {
			wantPath(t, "many grounds", g, cell, pathOf(g, cell)...)
		}
	}
}

func wantBasin(t *testing.T, name string, g impl.Ground, cell int64, want uint64) {
	t.Helper()
	got, code := impl.BasinOf(g, cell)
	if got != want || code != impl.OK {
		t.Errorf("%s: the basin of %d is %x, code %d, want %x", name, cell, got, code, want)
	}
}

func TestBasinOf(t *testing.T) {
	g := example(t)
	wantBasin(t, "the example", g, 2, 1<<1|1<<2)
	wantBasin(t, "from where water flows off", g, 1, 0)
	for _, cell := range []int64{0, 8, 9, 10} {
		wantBasin(t, "to which nothing flows", g, cell, 1<<cell)
	}
	slope := line(t)
	wantBasin(t, "the end of a slope", slope, 0, 7)
	wantBasin(t, "the middle of a slope", slope, 1, 0)
	wantBasin(t, "a dry cell", slope, 9, 1<<9)
	for _, g := range manyGrounds(60) {
		basins := map[int64]uint64{}
		for _, cell := range cellsOf(g) {
			path := pathOf(g, cell)
			basins[path[len(path)-1]] |= 1 << cell
		}
		for _, cell := range cellsOf(g) {
			wantBasin(t, "many grounds", g, cell, basins[cell])
		}
	}
}
