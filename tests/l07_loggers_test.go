package tests

import (
	"fmt"
	"math"
	"math/rand"
	"testing"

	"loop.example/g01288/impl"
)

func wantLevels(t *testing.T, name string, g impl.Ground, want [64]int16, wantedCode int64) {
	t.Helper()
	levels, code := impl.LoggedLevels(g)
	wantCode(t, "LoggedLevels, "+name, code, wantedCode)
	if levels != want {
		t.Errorf("LoggedLevels, %s: %v, want %v", name, levels, want)
	}
}

// wantHundredths checks what a logger keeps of one head.
func wantHundredths(t *testing.T, head float32, want int16) {
	t.Helper()
	g := even(t, 2, 2, 1, 0)
	g.Heads[9] = head
	wantLevels(t, fmt.Sprint("the head ", head), g, [64]int16{9: want}, impl.OK)
}

func TestLoggedLevels(t *testing.T) {
	g := example(t)
	wantLevels(t, "the example of chapter 1", g, [64]int16{0: 500, 1: 600, 2: 500, 8: 500, 9: 500, 10: 500}, impl.OK)
	g.Heads = impl.Field{0: -1, 1: 1.25, 2: 1000, 8: -0.5, 9: 0.125, 10: -1000, 3: negativeZero, 63: negativeZero}
	wantLevels(t, "other heads", g, [64]int16{0: -100, 1: 125, 2: 32767, 8: -50, 9: 13, 10: -32768}, impl.OK)
	g = even(t, 8, 8, 1, 0)
	want := [64]int16{}
	for cell := range g.Heads {
		g.Heads[cell] = float32(cell) - 32
		want[cell] = int16(100 * (cell - 32))
	}
	wantLevels(t, "as many cells as can be", g, want, impl.OK)
	for _, broken := range brokenGrounds(t) {
		wantLevels(t, broken.name, broken.ground, [64]int16{}, impl.ErrInvalid)
	}
}

func TestHalfHundredths(t *testing.T) {
	// An odd number of eighths is halfway between two hundredths.
	for head, size := range map[float32]int16{0.125: 13, 0.375: 38, 0.625: 63, 0.875: 88, 1.125: 113, 2.125: 213, 327.125: 32713, 327.375: 32738, 327.625: 32763} {
		wantHundredths(t, head, size)
		wantHundredths(t, -head, -size)
		wantHundredths(t, justAbove(head), size)
		wantHundredths(t, justBelow(head), size-1)
		wantHundredths(t, -justAbove(head), -size)
		wantHundredths(t, -justBelow(head), 1-size)
	}
	for head, size := range map[float32]int16{0.25: 25, 0.75: 75, 0.01: 1, 0.99: 99, 3.14159: 314, 100: 10000, least: 0, 1e-30: 0} {
		wantHundredths(t, head, size)
		wantHundredths(t, -head, -size)
	}
	wantHundredths(t, 0, 0)
	wantHundredths(t, negativeZero, 0)
}

func TestHundredthsAreWide(t *testing.T) {
	// The narrow product is a half, but the wide one is less, or greater.
	halves := 0
	for n := range int16(2000) {
		half := float32(n) + 0.5
		nearest := math.Float32bits(divided(half, 100))
		for bits := nearest - 1; bits <= nearest+2; bits++ {
			head := math.Float32frombits(bits)
			if times(head, 100) != half || 100*float64(head) == float64(half) {
				continue
			}
			want := n
			if 100*float64(head) > float64(half) {
				want++
			}
			wantHundredths(t, head, want)
			wantHundredths(t, -head, -want)
			halves++
		}
	}
	if halves < 1000 {
		t.Errorf("only %d heads have been looked at", halves)
	}
	wantHundredths(t, 0.005, 0)
	wantHundredths(t, -0.005, 0)
	wantHundredths(t, justAbove(0.005), 1)
	wantHundredths(t, -justAbove(0.005), -1)
	wantHundredths(t, 0.015, 1)
	wantHundredths(t, 0.025, 3)
}

func TestHundredthsHaveBounds(t *testing.T) {
	for head, want := range map[float32]int16{
		327.66: 32766, 327.67: 32767, 327.6: 32760, 327.625: 32763, 327.6875: 32767, 327.68: 32767, 327.7: 32767, 328: 32767,
		655.36: 32767, 655.37: 32767, 1000: 32767, 42949.67: 32767, 100000: 32767, impl.MaxSize: 32767, justBelow(impl.MaxSize): 32767,
		-327.66: -32766, -327.67: -32767, -327.675: -32767, -327.6875: -32768, -327.68: -32768, -327.69: -32768, -328: -32768,
		-655.36: -32768, -655.37: -32768, -1000: -32768, -42949.67: -32768, -100000: -32768, -impl.MaxSize: -32768,
	} {
		wantHundredths(t, head, want)
		if written := hundredthsOf(head); written != want {
			t.Errorf("written down, a logger has %d of %v, and not %d", written, head, want)
		}
	}
}

func TestLoggedLevelsOfMany(t *testing.T) {
	r := rand.New(rand.NewSource(116))
	for i, g := range manyGrounds(300) {
		for _, cell := range cellsOf(g) {
			switch r.Intn(3) {
			case 0:
				g.Heads[cell] = float32(r.Intn(8000)-4000) / 8
			case 1:
				g.Heads[cell] = float32(400 * r.NormFloat64())
			}
		}
		want := [64]int16{}
		for _, cell := range cellsOf(g) {
			want[cell] = hundredthsOf(g.Heads[cell])
		}
		wantLevels(t, fmt.Sprint("the ground ", i), g, want, impl.OK)
	}
}

func wantDrop(t *testing.T, name string, a, b [64]int16, want, wantedDrop int64) {
	t.Helper()
	at, drop := impl.DropsLogged(a, b)
	if at != want || drop != wantedDrop {
		t.Errorf("DropsLogged, %s: %d at %d, want %d at %d", name, drop, at, wantedDrop, want)
	}
}

// evenLogger returns a logger that has one level of all cells.
func evenLogger(level int16) [64]int16 {
	l := [64]int16{}
	for i := range l {
		l[i] = level
	}
	return l
}

func TestDropsLogged(t *testing.T) {
	wantDrop(t, "nothing", [64]int16{}, [64]int16{}, 0, 0)
	wantDrop(t, "the same", evenLogger(-77), evenLogger(-77), 0, 0)
	wantDrop(t, "one", [64]int16{9: 5}, [64]int16{}, 9, 5)
	wantDrop(t, "the last one", [64]int16{63: 5}, [64]int16{}, 63, 5)
	wantDrop(t, "the first one", [64]int16{}, [64]int16{0: -5}, 0, 5)
	wantDrop(t, "equal drops", [64]int16{9: 5, 12: 7, 30: 4}, [64]int16{12: 2, 30: -1, 40: -5}, 9, 5)
	wantDrop(t, "a rise alone", [64]int16{}, [64]int16{0: 5}, 1, 0)
	wantDrop(t, "rises and no drop", [64]int16{}, [64]int16{0: 1, 1: 1, 2: 9, 3: 0}, 3, 0)
	wantDrop(t, "all rise", evenLogger(3), evenLogger(5), 0, -2)
	rising := evenLogger(100)
	rising[20], rising[21] = 7, 7
	wantDrop(t, "all rise, some less", [64]int16{}, rising, 20, -7)
	wantDrop(t, "as much as can be", [64]int16{40: 32767}, [64]int16{40: -32768}, 40, 65535)
	wantDrop(t, "as little as can be", evenLogger(-32768), evenLogger(32767), 0, -65535)
	wantDrop(t, "not only sizes", [64]int16{5: -32768, 6: 1}, [64]int16{5: 32767}, 6, 1)
	wantDrop(t, "numbers that wrap around", [64]int16{5: 20000, 6: 30000}, [64]int16{5: -20000}, 5, 40000)
}

func TestDropsLoggedOfMany(t *testing.T) {
	r := rand.New(rand.NewSource(117))
	for range 2000 {
		a, b := [64]int16{}, [64]int16{}
		spread := []int{2, 5, 100, 65536}[r.Intn(4)]
		for i := range a {
			a[i], b[i] = int16(r.Intn(spread)-spread/2), int16(r.Intn(spread)-spread/2)
		}
		want := int64(0)
		for i := range a {
			if int64(a[i])-int64(b[i]) > int64(a[want])-int64(b[want]) {
				want = int64(i)
			}
		}
		wantDrop(t, "random levels", a, b, want, int64(a[want])-int64(b[want]))
	}
}
