package tests

import (
	"fmt"
	"math"
	"math/rand"
	"slices"
	"testing"

	"loop.example/g01288/impl"
)

// stillSite is one at which nothing is drawn down, whatever the aquifer is.
var stillSite = impl.Site{X: 3}

// randomGuesses returns so many valid guesses, some of which are the same as others.
func randomGuesses(r *rand.Rand, count int) []impl.Aquifer {
	var guesses []impl.Aquifer
	for len(guesses) < count {
		a := randomAquifer(r)
		if len(guesses) > 0 && r.Intn(3) == 0 {
			a = guesses[r.Intn(len(guesses))]
		}
		guesses = append(guesses, a)
	}
	return guesses
}

func TestMisfitOf(t *testing.T) {
	for _, c := range []struct {
		levels []int16
		want   float32
	}{
		{nil, 0}, {[]int16{0}, 0}, {[]int16{16}, 1}, {[]int16{-16}, 1}, {[]int16{16, -16}, 2}, {[]int16{1, -2, 3}, 0.375}, {[]int16{0, 0, 0}, 0},
		{[]int16{-32768, 32767}, 65535.0 / 16}, {[]int16{-32768}, 2048},
	} {
		for _, rate := range []float32{0, negativeZero} {
			misfit, code := impl.MisfitOf(unitAquifer, impl.Site{Well: impl.Well{Rate: rate}}, readingsOf(c.levels...))
			wantResult(t, fmt.Sprint("MisfitOf ", c.levels, " without a rate"), misfit, code, c.want, impl.OK)
		}
	}
	s, code := impl.DrawdownAt(unitAquifer, unitSite.Well, 2, 0, 5)
	wantCode(t, "DrawdownAt", code, impl.OK)
	misfit, code := impl.MisfitOf(unitAquifer, unitSite, readingsAt(5, 0))
	wantResult(t, "MisfitOf one reading of 0", misfit, code, s, impl.OK)
	misfit, code = impl.MisfitOf(unitAquifer, unitSite, readingsAt(5, 32767))
	wantResult(t, "MisfitOf one reading that is too great", misfit, code, minus(32767.0/16, s), impl.OK)
}

func TestMisfitOfMany(t *testing.T) {
	r := rand.New(rand.NewSource(46))
	rounded := 0
	for i := range 10000 {
		a, s, list := randomAquifer(r), randomSite(r), randomReadings(r, i%(impl.MaxReadings+1))
		if i%2 == 0 {
			s, list = testedSite(r)
		}
		misfit, code := impl.MisfitOf(a, s, list)
		wantResult(t, fmt.Sprint("MisfitOf ", a, s, list), misfit, code, misfitOf(a, s, list), impl.OK)
		other := slices.Clone(list)
		slices.Reverse(other)
		if misfitOf(a, s, other) != misfit {
			rounded++
		}
	}
	if rounded < 1000 {
		t.Errorf("only %d misfits are others from the last reading on", rounded)
	}
}

func TestWorstReading(t *testing.T) {
	for _, c := range []struct {
		levels []int16
		at     int64
		want   float32
	}{
		{[]int16{0}, 0, 0}, {[]int16{0, 0}, 0, 0}, {[]int16{16}, 0, 1}, {[]int16{-16}, 0, -1}, {[]int16{1, 2, 3}, 2, 0.1875}, {[]int16{1, -3, 2}, 1, -0.1875},
		{[]int16{-3, 3}, 0, -0.1875}, {[]int16{3, -3}, 0, 0.1875}, {[]int16{0, 5, -5, 5}, 1, 0.3125}, {[]int16{1, -5, 5}, 1, -0.3125},
		{[]int16{32767, -32768}, 1, -2048}, {[]int16{-32768, 32767}, 0, -2048}, {[]int16{0, 0, 1}, 2, 0.0625},
	} {
		for _, rate := range []float32{0, negativeZero} {
			at, worst, code := impl.WorstReading(unitAquifer, impl.Site{Well: impl.Well{Rate: rate}}, readingsOf(c.levels...))
			wantIndex(t, fmt.Sprint("WorstReading ", c.levels), at, worst, code, c.at, c.want, impl.OK)
		}
	}
	for _, none := range [][]impl.Reading{nil, {}} {
		at, worst, code := impl.WorstReading(unitAquifer, unitSite, none)
		wantIndex(t, "WorstReading of none", at, worst, code, 0, 0, impl.ErrNotFound)
	}
	r := rand.New(rand.NewSource(47))
	for i := range 5000 {
		a, s, list := randomAquifer(r), randomSite(r), randomReadings(r, i%(impl.MaxReadings+1))
		if i%2 == 0 {
			s, list = testedSite(r)
		}
		at, worst, code := impl.WorstReading(a, s, list)
		wantedAt, want, wantedCode := worstOf(a, s, list)
		wantIndex(t, fmt.Sprint("WorstReading ", a, s, list), at, worst, code, wantedAt, want, wantedCode)
	}
}

func TestBestGuess(t *testing.T) {
	near, far := impl.Aquifer{Transmit: 1, Store: 0.5}, impl.Aquifer{Transmit: 40, Store: 0.5}
	list, code := impl.ReadingsFrom(near, unitSite, []int64{1, 2, 5, 10, 100})
	wantCode(t, "ReadingsFrom", code, impl.OK)
	closest, between := misfitOf(near, unitSite, list), impl.Aquifer{Transmit: 1.01, Store: 0.5}
	for _, c := range []struct {
		guesses []impl.Aquifer
		want    int64
	}{
		{[]impl.Aquifer{near}, 0}, {[]impl.Aquifer{near, far}, 0}, {[]impl.Aquifer{far, near}, 1}, {[]impl.Aquifer{far, near, far}, 1},
		{[]impl.Aquifer{near, near}, 0}, {[]impl.Aquifer{far, near, near, near}, 1}, {[]impl.Aquifer{far, between, near}, 2}, {[]impl.Aquifer{between, near, far}, 1},
	} {
		at, misfit, code := impl.BestGuess(c.guesses, unitSite, list)
		wantIndex(t, fmt.Sprint("BestGuess ", c.guesses), at, misfit, code, c.want, closest, impl.OK)
	}
	// Without a rate all guesses are as good, and without readings they have no misfit.
	at, misfit, code := impl.BestGuess([]impl.Aquifer{far, near, between}, stillSite, readingsOf(16, -16))
	wantIndex(t, "BestGuess without a rate", at, misfit, code, 0, 2, impl.OK)
	at, misfit, code = impl.BestGuess([]impl.Aquifer{far, near, between}, unitSite, nil)
	wantIndex(t, "BestGuess without readings", at, misfit, code, 0, 0, impl.OK)
	all := slices.Repeat([]impl.Aquifer{far}, impl.MaxGuesses)
	all[impl.MaxGuesses-1] = near
	at, misfit, code = impl.BestGuess(all, unitSite, list)
	wantIndex(t, "BestGuess of MaxGuesses", at, misfit, code, impl.MaxGuesses-1, closest, impl.OK)
}

func TestBestGuessOfMany(t *testing.T) {
	r := rand.New(rand.NewSource(48))
	ties := 0
	for i := range 3000 {
		guesses := randomGuesses(r, 1+i%impl.MaxGuesses)
		s, list := testedSite(r)
		best, least := 0, misfitOf(guesses[0], s, list)
		for j, a := range guesses {
			if misfit := misfitOf(a, s, list); misfit < least {
				best, least = j, misfit
			} else if j > best && misfit == least {
				ties++
			}
		}
		at, misfit, code := impl.BestGuess(guesses, s, list)
		wantIndex(t, fmt.Sprint("BestGuess ", guesses, s, list), at, misfit, code, int64(best), least, impl.OK)
	}
	if ties < 500 {
		t.Errorf("only %d guesses are as good as the best one", ties)
	}
}

// checkFit compares FitFrom with what chapter 4 says, and returns how many rounds there have been, and which ties.
func checkFit(t *testing.T, start impl.Aquifer, s impl.Site, list []impl.Reading, rounds int64) (int64, [][2]int) {
	t.Helper()
	want, wantedMisfit, wantedChanged, ties := fitOf(start, s, list, rounds)
	a, misfit, changed, code := impl.FitFrom(start, s, list, rounds)
	wantFit(t, fmt.Sprint("FitFrom ", start, s, list, rounds), a, misfit, changed, code, want, wantedMisfit, wantedChanged, impl.OK)
	return changed, ties
}

func TestFitFrom(t *testing.T) {
	from := impl.Aquifer{Transmit: 1, Store: 0.5}
	for _, target := range []impl.Aquifer{
		{Transmit: 1.25, Store: 0.5}, {Transmit: 0.8, Store: 0.5}, {Transmit: 1, Store: 0.625}, {Transmit: 1, Store: 0.4},
	} {
		list, code := impl.ReadingsFrom(target, unitSite, []int64{1, 2, 5, 10, 20, 50, 100})
		wantCode(t, "ReadingsFrom", code, impl.OK)
		a, misfit, changed, code := impl.FitFrom(from, unitSite, list, 1)
		wantFit(t, fmt.Sprint("FitFrom, one round to ", target), a, misfit, changed, code, target, misfitOf(target, unitSite, list), 1, impl.OK)
		a, misfit, changed, code = impl.FitFrom(from, unitSite, list, 0)
		wantFit(t, "FitFrom, no rounds", a, misfit, changed, code, from, misfitOf(from, unitSite, list), 0, impl.OK)
		checkFit(t, from, unitSite, list, 2)
		checkFit(t, from, unitSite, list, impl.MaxRounds)
	}
	for _, rounds := range []int64{0, 1, impl.MaxRounds} {
		a, misfit, changed, code := impl.FitFrom(from, unitSite, nil, rounds)
		wantFit(t, "FitFrom without readings", a, misfit, changed, code, from, 0, 0, impl.OK)
		a, misfit, changed, code = impl.FitFrom(from, stillSite, readingsOf(16, -16), rounds)
		wantFit(t, "FitFrom without a rate", a, misfit, changed, code, from, 2, 0, impl.OK)
	}
}

func TestFitFromMany(t *testing.T) {
	r := rand.New(rand.NewSource(49))
	long := 0
	for i := range 1500 {
		s, list := testedSite(r)
		start := impl.Aquifer{Transmit: float32(math.Exp2(10*r.Float64() - 5)), Store: float32(math.Exp2(-8 * r.Float64()))}
		switch i % 3 {
		case 0:
			start = randomAquifer(r)
		case 1:
			s = randomSite(r)
		}
		rounds := []int64{impl.MaxRounds, 1, int64(r.Intn(impl.MaxRounds + 1))}[r.Intn(3)]
		if changed, _ := checkFit(t, start, s, list, rounds); changed > 3 {
			long++
		}
	}
	if long < 100 {
		t.Errorf("only %d fits have more than three rounds", long)
	}
}

func TestFitFromCoarseMisfits(t *testing.T) {
	// Beside levels so great, drawdowns so small make few different misfits, so that each two tries tie now and then.
	r := rand.New(rand.NewSource(56))
	ties := map[[2]int]int{}
	for range 10000 {
		s := impl.Site{Well: impl.Well{Rate: float32(math.Exp2(14*r.Float64() - 12))}, X: int8(1 + r.Intn(5))}
		start := impl.Aquifer{Transmit: float32(math.Exp2(4*r.Float64() - 2)), Store: float32(math.Exp2(-4 * r.Float64()))}
		var list []impl.Reading
		for _, time := range randomTimes(r, 1+r.Intn(12)) {
			list = append(list, impl.Reading{Time: time, Level: []int16{math.MinInt16, math.MaxInt16}[r.Intn(2)]})
		}
		_, tied := checkFit(t, start, s, list, int64(r.Intn(10)))
		for _, pair := range tied {
			ties[pair]++
		}
	}
	for i := range 4 {
		for j := range i {
			if ties[[2]int{j, i}] == 0 {
				t.Errorf("the tries %d and %d have never been as good as each other", j, i)
			}
		}
	}
}

func TestFitFromTies(t *testing.T) {
	// Here less Transmit, or more Store, each makes the argument greater than 80, and the misfit 0.
	start := impl.Aquifer{Transmit: 0.0625, Store: 0.5}
	s := impl.Site{Well: impl.Well{Rate: impl.MaxSize}, X: 6}
	u, _ := impl.ArgumentAt(start, s.Well, 6, 0, 1)
	if u != 72 || !(misfitOf(start, s, readingsAt(1, 0)) > 0) {
		t.Fatalf("the argument is %v", u)
	}
	a, misfit, changed, code := impl.FitFrom(start, s, readingsAt(1, 0), impl.MaxRounds)
	wantFit(t, "FitFrom with a tie", a, misfit, changed, code, impl.Aquifer{Transmit: times(0.0625, 0.8), Store: 0.5}, 0, 1, impl.OK)
	// Where less Transmit is not valid, more Store is the first one of those.
	start = impl.Aquifer{Transmit: 1.0 / 1024, Store: 0.5}
	s.X, s.Y = 1, 0
	time := int64(2)
	u, _ = impl.ArgumentAt(start, s.Well, 1, 0, time)
	if u != 64 {
		t.Fatalf("the argument is %v", u)
	}
	start.Store = 0.55
	a, misfit, changed, code = impl.FitFrom(start, s, readingsAt(time, 0), impl.MaxRounds)
	wantFit(t, "FitFrom with the least Transmit", a, misfit, changed, code, impl.Aquifer{Transmit: 1.0 / 1024, Store: times(0.55, 1.25)}, 0, 1, impl.OK)
}

func TestFitFromAtEdges(t *testing.T) {
	// Great levels ask for what is not valid any more, on each side; tries that are not valid are left out.
	great, small := readingsOf(32767, 32767, 32767), readingsOf(0, 0, 0)
	for _, a := range []impl.Aquifer{
		{Transmit: 1.0 / 1024, Store: 1.0 / 1048576}, {Transmit: 1.0 / 1024, Store: 1}, {Transmit: impl.MaxSize, Store: 1.0 / 1048576}, {Transmit: impl.MaxSize, Store: 1},
		{Transmit: 1.25 / 1024, Store: 1.25 / 1048576}, {Transmit: justBelow(1.25 / 1024), Store: 0.8}, {Transmit: 838860.8, Store: justAbove(0.8)}, {Transmit: justAbove(838860.8), Store: 1.2 / 1048576},
		{Transmit: 0.002, Store: 0.9}, {Transmit: 800000, Store: 2e-6},
	} {
		for _, rate := range []float32{100, -100, 1, impl.MaxSize} {
			for _, list := range [][]impl.Reading{great, small, readingsOf(-32768, -32768)} {
				s := impl.Site{Well: impl.Well{Rate: rate}, X: 1}
				for _, rounds := range []int64{1, 2, 3, impl.MaxRounds} {
					checkFit(t, a, s, list, rounds)
				}
				end, _, _, code := impl.FitFrom(a, s, list, impl.MaxRounds)
				if code != impl.OK || !impl.ValidAquifer(end) {
					t.Errorf("a fit from %v ends at %v, code %d", a, end, code)
				}
			}
		}
	}
}

func TestFitFromUsesAllRounds(t *testing.T) {
	s, start := impl.Site{Well: impl.Well{Rate: 1e6}, X: 1}, impl.Aquifer{Transmit: 1.0 / 1024, Store: 1.0 / 1048576}
	_, _, changed, code := impl.FitFrom(start, s, readingsOf(1, 1, 1), impl.MaxRounds)
	wantCount(t, "the rounds of a long fit", changed, code, impl.MaxRounds, impl.OK)
	for rounds := int64(0); rounds <= impl.MaxRounds; rounds += 7 {
		if changed, _ := checkFit(t, start, s, readingsOf(1, 1, 1), rounds); changed != rounds {
			t.Errorf("%d rounds have been made of %d", changed, rounds)
		}
	}
}

func TestFitsWithin(t *testing.T) {
	r := rand.New(rand.NewSource(50))
	some := 0
	for i := range 2000 {
		guesses := randomGuesses(r, 1+i%impl.MaxGuesses)
		s, list := testedSite(r)
		exact := misfitOf(guesses[r.Intn(len(guesses))], s, list)
		for _, bound := range []float32{exact, justAbove(exact), justBelow(exact), 0, negativeZero, -1, infinite, -infinite, notANumber, least, math.MaxFloat32} {
			var want []int64
			low, high := infinite, -infinite
			for j, a := range guesses {
				if misfitOf(a, s, list) <= bound {
					want = append(want, int64(j))
					low, high = min(low, a.Transmit), max(high, a.Transmit)
				}
			}
			name := fmt.Sprint(" ", guesses, s, list, bound)
			fits, code := impl.FitsWithin(guesses, s, list, bound)
			wantIndices(t, "FitsWithin"+name, fits, code, want, impl.OK)
			a, b, code := impl.TransmitSpan(guesses, s, list, bound)
			if len(want) == 0 {
				wantPair(t, "TransmitSpan"+name, a, b, code, 0, 0, impl.ErrNotFound)
				continue
			}
			wantPair(t, "TransmitSpan"+name, a, b, code, low, high, impl.OK)
			if len(want) > 1 && len(want) < len(guesses) {
				some++
			}
		}
	}
	if some < 1000 {
		t.Errorf("only %d bounds are between", some)
	}
}

func TestFitsWithinABound(t *testing.T) {
	guesses := []impl.Aquifer{{Transmit: 3, Store: 1}, {Transmit: 2, Store: 0.5}, {Transmit: 7, Store: 0.25}, {Transmit: 2, Store: 1}}
	// Without a rate the misfit of all guesses is 2.
	list := readingsOf(16, -16)
	for bound, want := range map[float32][]int64{2: {0, 1, 2, 3}, justAbove(2): {0, 1, 2, 3}, justBelow(2): nil, infinite: {0, 1, 2, 3}, 0: nil, -infinite: nil} {
		fits, code := impl.FitsWithin(guesses, stillSite, list, bound)
		wantIndices(t, fmt.Sprint("FitsWithin ", bound), fits, code, want, impl.OK)
		low, high, code := impl.TransmitSpan(guesses, stillSite, list, bound)
		if want == nil {
			wantPair(t, fmt.Sprint("TransmitSpan ", bound), low, high, code, 0, 0, impl.ErrNotFound)
		} else {
			wantPair(t, fmt.Sprint("TransmitSpan ", bound), low, high, code, 2, 7, impl.OK)
		}
	}
	// Without readings the misfit is 0, which is at most -0, too.
	for _, bound := range []float32{0, negativeZero} {
		fits, code := impl.FitsWithin(guesses, unitSite, nil, bound)
		wantIndices(t, "FitsWithin without readings", fits, code, []int64{0, 1, 2, 3}, impl.OK)
		low, high, code := impl.TransmitSpan(guesses[:1], unitSite, nil, bound)
		wantPair(t, "TransmitSpan of one", low, high, code, 3, 3, impl.OK)
	}
	fits, code := impl.FitsWithin(guesses, stillSite, list, notANumber)
	wantIndices(t, "FitsWithin NaN", fits, code, nil, impl.OK)
	low, high, code := impl.TransmitSpan(guesses, stillSite, list, notANumber)
	wantPair(t, "TransmitSpan NaN", low, high, code, 0, 0, impl.ErrNotFound)
}
