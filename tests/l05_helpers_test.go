package tests

import (
	"math"
	"math/rand"
	"testing"

	"loop.example/g01288/impl"
)

// wrongMoves are numbers of steps, or of times of decay, that can't be asked for.
var wrongMoves = []int64{-1, impl.MaxMoves + 1, 1 << 32, 1<<32 + 1, math.MaxInt64, math.MinInt64}

// wrongShares are numbers that are not 0 to 1.
var wrongShares = []float32{-least, -1, justAbove(1), 2, impl.MaxSize, infinite, -infinite, notANumber}

// wrongSteps are lengths of time that are small for no brine.
var wrongSteps = append([]float32{-least, -1, -impl.MaxSize}, notPlain...)

// brineExample is the brine of the example of chapter 5.
func brineExample(t *testing.T) impl.Brine {
	t.Helper()
	b := impl.Brine{Ground: even(t, 2, 2, 1, 0), Room: 10}
	b.Ground.Heads[1] = 2
	b.Salt[1] = 4
	return b
}

// filling is a brine without flows, in which the salt of the cell 9 grows by so much in a step of 1.
func filling(t *testing.T, spring float32) impl.Brine {
	t.Helper()
	b := impl.Brine{Ground: even(t, 2, 2, 0, 0), Room: 1}
	b.Ground.Gain[9] = 1
	b.Spring[9] = spring
	return b
}

// draining is a brine without flows, from the cell 1 of which that much is taken away.
func draining(t *testing.T, out, salt, room float32) impl.Brine {
	t.Helper()
	b := impl.Brine{Ground: even(t, 2, 2, 0, 0), Room: room}
	b.Ground.Gain[1] = -out
	b.Salt[1] = salt
	return b
}

// amid is a brine in which the cell 9 has that gain, and loses these flows to the north, east, south and west, where the salt is as told.
func amid(t *testing.T, gain float32, flows, salt [4]float32) impl.Brine {
	t.Helper()
	b := impl.Brine{Ground: around(t, gain, [4]float32{-flows[0], -flows[1], -flows[2], -flows[3]}), Room: 1}
	b.Salt[1], b.Salt[10], b.Salt[17], b.Salt[8] = salt[0], salt[1], salt[2], salt[3]
	return b
}

// randomAmount returns a number that is plain and at least 0, often one at an edge.
func randomAmount(r *rand.Rand) float32 {
	if r.Intn(12) == 0 {
		return negativeZero
	}
	return float32(math.Abs(float64(randomPlain(r))))
}

// tinyAmount returns a number that is subnormal, or a little greater, or 0.
func tinyAmount(r *rand.Rand) float32 {
	return math.Float32frombits(r.Uint32() >> (8 + r.Intn(24)))
}

// saltBrine fills a ground with salt and springs.
func saltBrine(r *rand.Rand, g impl.Ground, amount func(r *rand.Rand) float32) impl.Brine {
	b := impl.Brine{Ground: g, Room: float32(math.Exp2(30*r.Float64() - 10))}
	if r.Intn(3) == 0 {
		b.Room = []float32{1, 10, 1.0 / 1024, impl.MaxSize}[r.Intn(4)]
	}
	for cell := range b.Salt {
		if r.Intn(8) == 0 {
			b.Salt[cell], b.Spring[cell] = negativeZero, negativeZero
		}
	}
	for _, cell := range cellsOf(g) {
		b.Salt[cell], b.Spring[cell] = amount(r), amount(r)
	}
	return b
}

// randomBrine returns a valid brine; some of them have many numbers at edges, some many that are subnormal, and some as much salt as can be.
func randomBrine(r *rand.Rand) impl.Brine {
	switch r.Intn(5) {
	case 0:
		return saltBrine(r, randomGround(r), randomAmount)
	case 1:
		g := calmGround(r)
		for _, cell := range cellsOf(g) {
			g.Heads[cell], g.Gain[cell] = tinyAmount(r), tinyAmount(r)
			if r.Intn(2) == 0 {
				g.Heads[cell], g.Gain[cell] = -g.Heads[cell], -g.Gain[cell]
			}
		}
		return saltBrine(r, g, randomAmount)
	case 2:
		return saltBrine(r, calmGround(r), tinyAmount)
	case 3:
		return saltBrine(r, calmGround(r), func(r *rand.Rand) float32 { return float32(impl.MaxSize - 100*r.Float64()) })
	}
	return calmBrine(r)
}

// calmBrine returns a valid brine with numbers that are neither small nor great.
func calmBrine(r *rand.Rand) impl.Brine {
	b := saltBrine(r, calmGround(r), func(r *rand.Rand) float32 { return float32(30 * r.Float64()) })
	b.Room = float32(0.5 + 20*r.Float64())
	return b
}

// randomBrines returns always the same valid brines.
func randomBrines(count int) []impl.Brine {
	r := rand.New(rand.NewSource(61))
	list := make([]impl.Brine, count)
	for i := range list {
		list[i] = randomBrine(r)
	}
	return list
}

// brokenBrine is a brine that is not valid, and what is wrong with it.
type brokenBrine struct {
	name  string
	brine impl.Brine
}

// brokenBrines returns brines that are not valid, each in one way.
func brokenBrines(t *testing.T) []brokenBrine {
	t.Helper()
	list := []brokenBrine{{"nothing", impl.Brine{}}}
	for _, broken := range brokenGrounds(t) {
		list = append(list, brokenBrine{broken.name, impl.Brine{Ground: broken.ground, Room: 1}})
	}
	add := func(name string, change func(b *impl.Brine)) {
		b := brineExample(t)
		change(&b)
		list = append(list, brokenBrine{name, b})
	}
	add("the ground too wide", func(b *impl.Brine) { b.Ground.Wide = 9 })
	for _, a := range wrongSteps {
		for _, cell := range []int64{0, 1, 8, 9} {
			add("a wrong salt", func(b *impl.Brine) { b.Salt[cell] = a })
			add("a wrong spring", func(b *impl.Brine) { b.Spring[cell] = a })
		}
		add("a wrong room", func(b *impl.Brine) { b.Room = a })
	}
	for _, a := range []float32{0, negativeZero, least, justBelow(1.0 / 1024)} {
		add("too small a room", func(b *impl.Brine) { b.Room = a })
	}
	for _, cell := range []int64{2, 7, 10, 16, 63} {
		for _, a := range []float32{least, -least, 1, -1, infinite, notANumber} {
			add("a salt that is of no cell", func(b *impl.Brine) { b.Salt[cell] = a })
			add("a spring that is of no cell", func(b *impl.Brine) { b.Spring[cell] = a })
		}
	}
	return list
}

// What follows is written down step by step from chapter 5.

func outOf(b impl.Brine, cell int64) float32 {
	var sum float32
	for _, side := range sides {
		if flow := flowOf(b.Ground, cell, side); flow > 0 {
			sum = plus(sum, flow)
		}
	}
	if b.Ground.Gain[cell] < 0 {
		sum = plus(sum, minus(0, b.Ground.Gain[cell]))
	}
	return sum
}

func inOf(b impl.Brine, cell int64) float32 {
	var sum float32
	for _, side := range sides {
		if flow := flowOf(b.Ground, cell, side); flow < 0 {
			sum = plus(sum, times(minus(0, flow), b.Salt[besideOf(b.Ground, cell, side)]))
		}
	}
	if b.Ground.Gain[cell] > 0 {
		sum = plus(sum, times(b.Ground.Gain[cell], b.Spring[cell]))
	}
	return sum
}

func isFixed(g impl.Ground, cell int64) bool { return g.Fixed>>cell&1 == 1 }

func isSmall(b impl.Brine, step float32) bool {
	if !(step >= 0 && step <= impl.MaxSize) {
		return false
	}
	for _, cell := range cellsOf(b.Ground) {
		if !isFixed(b.Ground, cell) && !(divided(times(step, outOf(b, cell)), b.Room) <= 1) {
			return false
		}
	}
	return true
}

func safeOf(b impl.Brine) (float32, int64) {
	var safe []float32
	for _, cell := range cellsOf(b.Ground) {
		if out := outOf(b, cell); out > 0 && !isFixed(b.Ground, cell) {
			if one := divided(b.Room, times(2, out)); len(safe) == 0 || one < safe[0] {
				safe = []float32{one}
			}
		}
	}
	if len(safe) == 0 {
		return 0, impl.ErrNotFound
	}
	if !(safe[0] <= impl.MaxSize) {
		return 0, impl.ErrState
	}
	return safe[0], impl.OK
}

// areSalts reports whether all cells have a salt that may be.
func areSalts(b impl.Brine) bool {
	for _, cell := range cellsOf(b.Ground) {
		if !(b.Salt[cell] >= 0 && b.Salt[cell] <= impl.MaxSize) {
			return false
		}
	}
	return true
}

func movedOf(b impl.Brine, step float32) (impl.Brine, int64) {
	if !isSmall(b, step) {
		return impl.Brine{}, impl.ErrRange
	}
	after := b
	for _, cell := range cellsOf(b.Ground) {
		if isFixed(b.Ground, cell) {
			continue
		}
		part := divided(times(step, outOf(b, cell)), b.Room)
		in := divided(times(step, inOf(b, cell)), b.Room)
		after.Salt[cell] = plus(times(b.Salt[cell], minus(1, part)), in)
	}
	if !areSalts(after) {
		return impl.Brine{}, impl.ErrState
	}
	return after, impl.OK
}

func movesOf(b impl.Brine, step float32, count int64) (impl.Brine, int64) {
	if !isSmall(b, step) {
		return impl.Brine{}, impl.ErrRange
	}
	for range count {
		after, code := movedOf(b, step)
		if code != impl.OK {
			return impl.Brine{}, code
		}
		b = after
	}
	return b, impl.OK
}

func untilOf(b impl.Brine, step float32, cell int64, level float32, most int64) (int64, int64) {
	for n := range most + 1 {
		after, code := movesOf(b, step, n)
		if code != impl.OK {
			return 0, code
		}
		if after.Salt[cell] >= level {
			return n, impl.OK
		}
	}
	return 0, impl.ErrBudget
}

func decayedOf(a, keep float32, count int64) float32 {
	for range count {
		a = times(a, keep)
	}
	return a
}

// saltSumOf returns the sum of salt times Room, and begins with the first one.
func saltSumOf(b impl.Brine) float32 {
	cells := cellsOf(b.Ground)
	sum := times(b.Salt[cells[0]], b.Room)
	for _, cell := range cells[1:] {
		sum = plus(sum, times(b.Salt[cell], b.Room))
	}
	return sum
}

func mixedOf(a, b impl.Brine, share float32) impl.Brine {
	for _, cell := range cellsOf(a.Ground) {
		a.Salt[cell] = plus(a.Salt[cell], times(share, minus(b.Salt[cell], a.Salt[cell])))
	}
	return a
}

func reversedOf(b impl.Brine) impl.Brine {
	for _, cell := range cellsOf(b.Ground) {
		b.Ground.Heads[cell] = minus(0, b.Ground.Heads[cell])
		b.Ground.Gain[cell] = minus(0, b.Ground.Gain[cell])
	}
	return b
}

// sameBrine judges without the program.
func sameBrine(a, b impl.Brine) bool {
	return sameGround(a.Ground, b.Ground) && sameField(a.Salt, b.Salt) && sameField(a.Spring, b.Spring) && sameBits(a.Room, b.Room)
}

func wantBrine(t *testing.T, name string, got impl.Brine, code int64, want impl.Brine, wantedCode int64) {
	t.Helper()
	wantCode(t, name, code, wantedCode)
	if !sameBrine(got, want) {
		t.Errorf("%s: got %v, want %v", name, got, want)
	}
}

// wantSalt checks that a brine is another one, with other salt.
func wantSalt(t *testing.T, name string, got impl.Brine, code int64, from impl.Brine, salt impl.Field) {
	t.Helper()
	from.Salt = salt
	wantBrine(t, name, got, code, from, impl.OK)
}

// wantSmall checks whether a step is small.
func wantSmall(t *testing.T, name string, b impl.Brine, step float32, want bool) {
	t.Helper()
	small, code := impl.IsSmallStep(b, step)
	if small != want || code != impl.OK {
		t.Errorf("%s: the step %v is small: %v, code %d, want %v", name, step, small, code, want)
	}
}
