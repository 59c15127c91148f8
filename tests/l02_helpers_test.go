package tests

import (
	"math"
	"math/rand"
	"testing"

	"loop.example/g01288/impl"
)

// justBelow and justAbove return the number that is next to another one.
func justBelow(a float32) float32 { return math.Nextafter32(a, float32(math.Inf(-1))) }
func justAbove(a float32) float32 { return math.Nextafter32(a, infinite) }

// wrongLeeways are numbers within which no heads can be told to be still.
var wrongLeeways = []float32{-least, -1, -impl.MaxSize, justAbove(impl.MaxSize), infinite, -infinite, notANumber}

// wrongBudgets are numbers of sweeps that can't be asked for.
var wrongBudgets = []int64{-1, impl.MaxSweeps + 1, 1 << 32, math.MaxInt64, math.MinInt64}

// notPlain are numbers that are not plain.
var notPlain = []float32{justAbove(impl.MaxSize), justBelow(-impl.MaxSize), math.MaxFloat32, infinite, -infinite, notANumber}

// around is a ground 3 wide and 3 high whose joints are 1, with the gain of the cell 9 and the heads to its north, east, south and west.
func around(t *testing.T, gain float32, heads [4]float32) impl.Ground {
	t.Helper()
	g := even(t, 3, 3, 1, 0)
	g.Gain[9] = gain
	g.Heads[1], g.Heads[10], g.Heads[17], g.Heads[8] = heads[0], heads[1], heads[2], heads[3]
	return g
}

// rising is a ground in which the cells 1, 8 and 9 are not fed, and the cell 9 gains: its heads rise without an end.
func rising(t *testing.T, gain float32) impl.Ground {
	t.Helper()
	g := even(t, 2, 2, 1, 0)
	g.Conduct[0] = 0
	g.Gain[9] = gain
	return g
}

// bursting is a ground in which the cell 1 would get a head that is not finite.
func bursting(t *testing.T) impl.Ground {
	t.Helper()
	g := even(t, 2, 2, 1, 0)
	g.Conduct[1] = least
	g.Gain[1] = 1
	return g
}

// calmGround returns a valid ground with numbers that are neither small nor great.
func calmGround(r *rand.Rand) impl.Ground {
	g := impl.Ground{Wide: int8(2 + r.Intn(7)), High: int8(2 + r.Intn(7))}
	cells := cellsOf(g)
	for _, cell := range cells {
		g.Conduct[cell] = float32(0.25 + 4*r.Float64())
		g.Heads[cell] = float32(100*r.Float64() - 50)
		if r.Intn(3) == 0 {
			g.Gain[cell] = float32(r.NormFloat64())
		}
		if r.Intn(12) == 0 {
			g.Conduct[cell] = 0
		}
		if r.Intn(6) == 0 {
			g.Fixed |= 1 << cell
		}
	}
	g.Fixed |= 1 << cells[r.Intn(len(cells))]
	return g
}

// calmGrounds returns always the same calm grounds.
func calmGrounds(count int) []impl.Ground {
	r := rand.New(rand.NewSource(3))
	list := make([]impl.Ground, count)
	for i := range list {
		list[i] = calmGround(r)
	}
	return list
}

// manyGrounds returns calm grounds, and such ones with numbers at edges.
func manyGrounds(count int) []impl.Ground {
	return append(calmGrounds(count), randomGrounds(count)...)
}

// settledOf returns the settled head of a cell.
func settledOf(g impl.Ground, cell int64) float32 {
	top, bottom := g.Gain[cell], float32(0)
	for _, side := range sides {
		other := besideOf(g, cell, side)
		if other < 0 {
			continue
		}
		c := jointOf(g.Conduct[cell], g.Conduct[other])
		top = plus(top, times(c, g.Heads[other]))
		bottom = plus(bottom, c)
	}
	if g.Fixed>>cell&1 == 1 || bottom == 0 {
		return g.Heads[cell]
	}
	return divided(top, bottom)
}

// sweepResult is what a sweep returns.
type sweepResult struct {
	ground impl.Ground
	change float32
	code   int64
}

func wantSweep(t *testing.T, name string, g impl.Ground, change float32, code int64, want sweepResult) {
	t.Helper()
	wantGround(t, name, g, code, want.ground, want.code)
	wantNumber(t, name+", greatest change", change, want.change)
}

// sweepOf gives each cell in turn the head that next tells of the ground as it is by then.
func sweepOf(g impl.Ground, next func(now impl.Ground, cell int64) float32) sweepResult {
	now, greatest := g, float32(0)
	for _, cell := range cellsOf(g) {
		now.Heads[cell] = next(now, cell)
	}
	for _, cell := range cellsOf(g) {
		if !(math.Abs(float64(now.Heads[cell])) <= impl.MaxSize) {
			return sweepResult{code: impl.ErrState}
		}
		size := float32(math.Abs(float64(minus(now.Heads[cell], g.Heads[cell]))))
		if size > greatest {
			greatest = size
		}
	}
	return sweepResult{now, greatest, impl.OK}
}

func stepOf(g impl.Ground) sweepResult {
	return sweepOf(g, func(_ impl.Ground, cell int64) float32 { return settledOf(g, cell) })
}

func inOrderOf(g impl.Ground) sweepResult {
	return sweepOf(g, settledOf)
}

func colourOf(g impl.Ground, colour int64) sweepResult {
	return sweepOf(g, func(now impl.Ground, cell int64) float32 {
		if (cell%8+cell/8)%2 == colour {
			return settledOf(now, cell)
		}
		return now.Heads[cell]
	})
}

func bothOf(g impl.Ground) sweepResult {
	first := colourOf(g, 0)
	if first.code != impl.OK {
		return first
	}
	second := colourOf(first.ground, 1)
	if second.code == impl.OK && first.change > second.change {
		second.change = first.change
	}
	return second
}

func relaxedOf(g impl.Ground, share float32) sweepResult {
	return sweepOf(g, func(now impl.Ground, cell int64) float32 {
		head := now.Heads[cell]
		if g.Fixed>>cell&1 == 1 {
			return head
		}
		return plus(head, times(share, minus(settledOf(now, cell), head)))
	})
}

// settleOf makes sweeps until heads are still; it returns the ground, and how many sweeps there were.
func settleOf(g impl.Ground, within float32, most int64) (impl.Ground, int64, int64) {
	for n := int64(1); n <= most; n++ {
		s := inOrderOf(g)
		if s.code != impl.OK {
			return impl.Ground{}, 0, s.code
		}
		if s.change <= within {
			return s.ground, n, impl.OK
		}
		g = s.ground
	}
	return impl.Ground{}, 0, impl.ErrBudget
}

// pathOf returns the way of the water from a cell.
func pathOf(g impl.Ground, cell int64) []int64 {
	path := []int64{cell}
	for {
		next, most := int64(-1), float32(0)
		for _, side := range sides {
			if flow := flowOf(g, cell, side); flow > most {
				next, most = besideOf(g, cell, side), flow
			}
		}
		if next < 0 {
			return path
		}
		path = append(path, next)
		cell = next
	}
}
