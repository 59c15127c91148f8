package tests

import (
	"math"
	"math/rand"
	"testing"

	"loop.example/g01288/impl"
)

// Promise 1: every function returns for all arguments, modifies none, and returns equal results for equal ones.

// resultsOf calls all functions of chapter 1, and returns what they return, as text.
func resultsOf(g, h impl.Ground, n [3]int64, a [2]float32, fixed bool, text string) string {
	out := ""
	add := func(results ...any) { out += textOf(results...) }
	add(impl.CodeName(n[0]), impl.SameNumber(a[0], a[1]), impl.IsPlain(a[0]), impl.SameField(g.Heads, h.Heads))
	add(impl.ValidGround(g), impl.SameGround(g, h), impl.JointOf(a[0], a[1]), impl.NumberText(a[0]), impl.GroundText(g))
	add(impl.EvenGround(n[0], n[1], a[0], a[1]))
	add(impl.CellAt(g, n[0], n[1]))
	add(impl.BesideCell(g, n[0], n[2]))
	add(impl.CellsOf(g))
	add(impl.FlowFrom(g, n[0], n[2]))
	add(impl.BalanceAt(g, n[0]))
	add(impl.BalancesOf(g))
	add(impl.WorstBalance(g))
	add(impl.SumOver(g, h.Gain))
	add(impl.HeadsBetween(g))
	add(impl.WithHead(g, n[0], a[0]))
	add(impl.WithGain(g, n[0], a[0]))
	add(impl.WithConduct(g, n[0], a[0]))
	add(impl.WithFixed(g, n[0], fixed))
	add(impl.FedCells(g))
	add(impl.MirrorGround(g))
	add(impl.ReadNumber(text))
	add(impl.ReadGround(text))
	return out
}

// anyGround returns a ground that need not be valid.
func anyGround(r *rand.Rand) impl.Ground {
	g := randomGround(r)
	switch r.Intn(6) {
	case 0:
		g.Wide = int8(r.Intn(256) - 128)
	case 1:
		g.High = int8(r.Intn(256) - 128)
	case 2:
		g.Fixed = r.Uint64()
	case 3:
		for i := range g.Heads {
			g.Conduct[i] = math.Float32frombits(r.Uint32())
			g.Gain[i] = math.Float32frombits(r.Uint32())
			g.Heads[i] = math.Float32frombits(r.Uint32())
		}
	}
	return g
}

// anyText returns a text that is nearly one of a ground or of a number.
func anyText(r *rand.Rand, g impl.Ground) string {
	text := []byte(impl.GroundText(g))
	if r.Intn(3) == 0 {
		text = []byte(impl.NumberText(randomPlain(r)))
	}
	for range r.Intn(4) {
		if len(text) > 0 {
			text[r.Intn(len(text))] = byte(r.Intn(256))
		}
	}
	return string(text)
}

func TestPromise1AllArguments(t *testing.T) {
	r := rand.New(rand.NewSource(2))
	numbers := append([]int64{0, 1, 2, 3, 4, 8, 9, 10, 63}, wrongCells...)
	for range 3000 {
		g, h := anyGround(r), anyGround(r)
		n := [3]int64{}
		for i := range n {
			n[i] = numbers[r.Intn(len(numbers))]
		}
		a := [2]float32{oddNumbers[r.Intn(len(oddNumbers))], math.Float32frombits(r.Uint32())}
		fixed, text := r.Intn(2) == 0, anyText(r, g)
		g2, h2 := g, h
		first := resultsOf(g, h, n, a, fixed, text)
		if !sameGround(g, g2) || !sameGround(h, h2) {
			t.Fatal("an argument has been modified")
		}
		if second := resultsOf(g2, h2, n, a, fixed, text); first != second {
			t.Fatalf("equal arguments, other results:\n%s\n%s", first, second)
		}
	}
}

// Promise 2: flows are opposite, and grounds are read from their texts (see also TestGroundsAreRead).

func TestPromise2FlowsAreOpposite(t *testing.T) {
	for _, g := range randomGrounds(300) {
		for _, cell := range cellsOf(g) {
			for _, side := range sides {
				other, code := impl.BesideCell(g, cell, side)
				if code != impl.OK {
					continue
				}
				there, code := impl.FlowFrom(g, cell, side)
				wantCode(t, "flow there", code, impl.OK)
				back, code := impl.FlowFrom(g, other, (side+2)%4)
				wantCode(t, "flow back", code, impl.OK)
				if there != -back {
					t.Errorf("from %d to %d flows %v, and back %v", cell, other, there, back)
				}
			}
		}
	}
}

func TestPromise2FlowsToLowerHeads(t *testing.T) {
	g := even(t, 2, 2, 3, 1)
	g.Heads[0] = 5
	flow, code := impl.FlowFrom(g, 0, impl.SdSouth)
	wantResult(t, "to the lower head", flow, code, 12, impl.OK)
	flow, code = impl.FlowFrom(g, 8, impl.SdNorth)
	wantResult(t, "from the lower head", flow, code, -12, impl.OK)
}

// Promise 3: balances are gains less flows, nearly; cells that are fed are neighbours of such ones, or fixed.

func TestPromise3Balances(t *testing.T) {
	for _, g := range randomGrounds(300) {
		for _, cell := range cellsOf(g) {
			sum, size := float64(g.Gain[cell]), math.Abs(float64(g.Gain[cell]))
			for _, side := range sides {
				flow, _ := impl.FlowFrom(g, cell, side)
				sum -= float64(flow)
				size += math.Abs(float64(flow))
			}
			balance, code := impl.BalanceAt(g, cell)
			if code != impl.OK || math.Abs(float64(balance)-sum) > size*1e-6 {
				t.Errorf("the balance of %d is %v, and not %v", cell, balance, sum)
			}
		}
	}
}

func TestPromise3FedCells(t *testing.T) {
	for _, g := range randomGrounds(300) {
		fed, code := impl.FedCells(g)
		all, _ := impl.CellsOf(g)
		if code != impl.OK || fed&^all != 0 || g.Fixed&^fed != 0 {
			t.Fatalf("fed are %x of %x, with %x fixed, code %d", fed, all, g.Fixed, code)
		}
		for _, cell := range cellsOf(g) {
			beside := g.Fixed>>cell&1 == 1
			for _, side := range sides {
				other, code := impl.BesideCell(g, cell, side)
				if code == impl.OK && fed>>other&1 == 1 && impl.JointOf(g.Conduct[cell], g.Conduct[other]) > 0 {
					beside = true
				}
			}
			if beside != (fed>>cell&1 == 1) {
				t.Errorf("the cell %d is fed: %v, beside such a one, or fixed: %v", cell, !beside, beside)
			}
		}
	}
}
