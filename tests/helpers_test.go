package tests

import (
	"fmt"
	"math"
	"math/rand"
	"testing"

	"loop.example/g01288/impl"
)

var (
	negativeZero = float32(math.Copysign(0, -1))
	notANumber   = float32(math.NaN())
	infinite     = float32(math.Inf(1))
	least        = math.Float32frombits(1)
)

// oddNumbers are numbers at the edges of what is told of numbers, plain or not.
var oddNumbers = []float32{
	0, negativeZero, 1, -1, 0.1, 1.0 / 3, least, -least, math.Float32frombits(0x007fffff), 1e-30, 3e-20,
	impl.MaxSize, -impl.MaxSize, 1048576.125, -1048576.125, 16777217, math.MaxFloat32, -math.MaxFloat32,
	infinite, -infinite, notANumber, math.Float32frombits(0xffc00001), math.Float32frombits(0x7f800001),
}

var sides = []int64{impl.SdNorth, impl.SdEast, impl.SdSouth, impl.SdWest}

// wrongCells are numbers that are no cells of a ground 3 wide and 2 high.
var wrongCells = []int64{-1, 3, 7, 11, 16, 63, 64, 72, 256, 1 << 40, math.MaxInt64, math.MinInt64}

var wrongSides = []int64{-1, 4, 256, math.MaxInt64, math.MinInt64}

func even(t *testing.T, wide, high int64, conduct, head float32) impl.Ground {
	t.Helper()
	g, code := impl.EvenGround(wide, high, conduct, head)
	if code != impl.OK {
		t.Fatalf("EvenGround %d %d %v %v: code %d", wide, high, conduct, head, code)
	}
	return g
}

// example is the ground of the example of chapter 1.
func example(t *testing.T) impl.Ground {
	t.Helper()
	g := even(t, 3, 2, 2, 5)
	g.Heads[1] = 6
	return g
}

func wantCode(t *testing.T, name string, got, want int64) {
	t.Helper()
	if got != want {
		t.Errorf("%s: code %d, want %d", name, got, want)
	}
}

func wantNumber(t *testing.T, name string, got, want float32) {
	t.Helper()
	if !sameBits(got, want) {
		t.Errorf("%s: %v (%08x), want %v (%08x)", name, got, math.Float32bits(got), want, math.Float32bits(want))
	}
}

// wantResult checks a number that is returned with a code.
func wantResult(t *testing.T, name string, got float32, code int64, want float32, wantedCode int64) {
	t.Helper()
	wantCode(t, name, code, wantedCode)
	wantNumber(t, name, got, want)
}

// wantGround checks a ground that is returned with a code.
func wantGround(t *testing.T, name string, got impl.Ground, code int64, want impl.Ground, wantedCode int64) {
	t.Helper()
	wantCode(t, name, code, wantedCode)
	if !sameGround(got, want) {
		t.Errorf("%s: got %v, want %v", name, got, want)
	}
}

// sameBits, sameField and sameGround judge without the program.
func sameBits(a, b float32) bool {
	if math.IsNaN(float64(a)) {
		return math.IsNaN(float64(b))
	}
	return math.Float32bits(a) == math.Float32bits(b)
}

func sameField(a, b impl.Field) bool {
	for i := range a {
		if !sameBits(a[i], b[i]) {
			return false
		}
	}
	return true
}

func sameGround(a, b impl.Ground) bool {
	return a.Wide == b.Wide && a.High == b.High && a.Fixed == b.Fixed &&
		sameField(a.Conduct, b.Conduct) && sameField(a.Gain, b.Gain) && sameField(a.Heads, b.Heads)
}

// textOf returns results as text, which is equal for the same ones.
func textOf(results ...any) string {
	out := ""
	for _, result := range results {
		switch x := result.(type) {
		case float32:
			out += fmt.Sprintf("%08x ", canonicalBits(x))
		case impl.Field:
			out += fmt.Sprintf("%08x ", fieldBits(x))
		case impl.Ground:
			out += fmt.Sprintf("%d %d %x %08x %08x %08x ", x.Wide, x.High, x.Fixed, fieldBits(x.Conduct), fieldBits(x.Gain), fieldBits(x.Heads))
		case impl.Brine:
			out += textOf(x.Ground, x.Salt, x.Spring, x.Room)
		case impl.Wave:
			out += textOf(firstOf(x), secondOf(x))
		default:
			out += fmt.Sprintf("%v ", x)
		}
	}
	return out + "\n"
}

func canonicalBits(a float32) uint32 {
	if a != a {
		return 0x7fc00000
	}
	return math.Float32bits(a)
}

func fieldBits(f impl.Field) [64]uint32 {
	bits := [64]uint32{}
	for i, a := range f {
		bits[i] = canonicalBits(a)
	}
	return bits
}

// cellsOf returns the numbers of all cells in ascending order.
func cellsOf(g impl.Ground) []int64 {
	var cells []int64
	for y := int64(0); y < int64(g.High); y++ {
		for x := int64(0); x < int64(g.Wide); x++ {
			cells = append(cells, x+8*y)
		}
	}
	return cells
}

// besideOf returns the cell on a side of a cell, or -1.
func besideOf(g impl.Ground, cell, side int64) int64 {
	x, y := cell%8, cell/8
	switch side {
	case impl.SdNorth:
		y--
	case impl.SdEast:
		x++
	case impl.SdSouth:
		y++
	case impl.SdWest:
		x--
	}
	if x < 0 || y < 0 || x >= int64(g.Wide) || y >= int64(g.High) {
		return -1
	}
	return x + 8*y
}

// The wide number of one sum, product or quotient of narrow ones, rounded again, is the narrow one.
func plus(a, b float32) float32    { return float32(float64(a) + float64(b)) }
func minus(a, b float32) float32   { return float32(float64(a) - float64(b)) }
func times(a, b float32) float32   { return float32(float64(a) * float64(b)) }
func divided(a, b float32) float32 { return float32(float64(a) / float64(b)) }

func jointOf(a, b float32) float32 {
	if !(a > 0 && b > 0) {
		return 0
	}
	return divided(times(2, times(a, b)), plus(a, b))
}

func flowOf(g impl.Ground, cell, side int64) float32 {
	other := besideOf(g, cell, side)
	if other < 0 {
		return 0
	}
	return times(jointOf(g.Conduct[cell], g.Conduct[other]), minus(g.Heads[cell], g.Heads[other]))
}

func balanceOf(g impl.Ground, cell int64) float32 {
	sum := g.Gain[cell]
	for _, side := range sides {
		if besideOf(g, cell, side) >= 0 {
			sum = minus(sum, flowOf(g, cell, side))
		}
	}
	return sum
}

// randomPlain returns a plain number, often one at an edge.
func randomPlain(r *rand.Rand) float32 {
	for {
		a := float32(r.NormFloat64() * math.Pow(10, float64(r.Intn(14)-8)))
		if r.Intn(4) == 0 {
			a = oddNumbers[r.Intn(len(oddNumbers))]
		}
		if a >= -impl.MaxSize && a <= impl.MaxSize {
			return a
		}
	}
}

// randomGround returns a valid ground; some of its numbers that are no cells are -0.
func randomGround(r *rand.Rand) impl.Ground {
	g := impl.Ground{Wide: int8(2 + r.Intn(7)), High: int8(2 + r.Intn(7))}
	for cell := range g.Heads {
		if r.Intn(8) == 0 {
			g.Conduct[cell], g.Gain[cell], g.Heads[cell] = negativeZero, negativeZero, negativeZero
		}
	}
	cells := cellsOf(g)
	for _, cell := range cells {
		g.Conduct[cell] = float32(math.Abs(float64(randomPlain(r))))
		g.Gain[cell] = randomPlain(r)
		g.Heads[cell] = randomPlain(r)
		if r.Intn(5) == 0 {
			g.Conduct[cell] = 0
		}
		if r.Intn(6) == 0 {
			g.Fixed |= 1 << cell
		}
	}
	g.Fixed |= 1 << cells[r.Intn(len(cells))]
	return g
}

// randomGrounds returns always the same valid grounds.
func randomGrounds(count int) []impl.Ground {
	r := rand.New(rand.NewSource(1))
	list := make([]impl.Ground, count)
	for i := range list {
		list[i] = randomGround(r)
	}
	return list
}

// brokenGround is a ground that is not valid, and what is wrong with it.
type brokenGround struct {
	name   string
	ground impl.Ground
}

// brokenGrounds returns grounds 3 wide and 2 high that are not valid, each in one way.
func brokenGrounds(t *testing.T) []brokenGround {
	t.Helper()
	var list []brokenGround
	add := func(name string, change func(g *impl.Ground)) {
		g := example(t)
		change(&g)
		list = append(list, brokenGround{name, g})
	}
	list = append(list, brokenGround{"the zero ground", impl.Ground{}})
	for _, extent := range []int8{-128, -1, 0, 1, 9, 127} {
		add("Wide", func(g *impl.Ground) { g.Wide = extent })
		add("High", func(g *impl.Ground) { g.High = extent })
	}
	add("Wide that leaves numbers outside", func(g *impl.Ground) { g.Wide = 2 })
	add("no cell fixed", func(g *impl.Ground) { g.Fixed = 0 })
	for _, cell := range []int64{3, 7, 11, 16, 63} {
		add("fixed beside the cells", func(g *impl.Ground) { g.Fixed |= 1 << cell })
		add("fixed beside the cells alone", func(g *impl.Ground) { g.Fixed = 1 << cell })
		for _, a := range []float32{1, -1, least, notANumber, infinite} {
			add("a conductance that is of no cell", func(g *impl.Ground) { g.Conduct[cell] = a })
			add("a gain that is of no cell", func(g *impl.Ground) { g.Gain[cell] = a })
			add("a head that is of no cell", func(g *impl.Ground) { g.Heads[cell] = a })
		}
	}
	for _, cell := range []int64{0, 1, 10} {
		for _, a := range []float32{1048576.125, -1048576.125, notANumber, infinite, -infinite} {
			add("a conductance that is not plain", func(g *impl.Ground) { g.Conduct[cell] = a })
			add("a gain that is not plain", func(g *impl.Ground) { g.Gain[cell] = a })
			add("a head that is not plain", func(g *impl.Ground) { g.Heads[cell] = a })
		}
		add("a conductance less than 0", func(g *impl.Ground) { g.Conduct[cell] = -1 })
		add("a conductance a little less than 0", func(g *impl.Ground) { g.Conduct[cell] = -least })
	}
	return list
}
