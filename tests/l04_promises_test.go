package tests

import (
	"fmt"
	"math"
	"math/rand"
	"slices"
	"testing"

	"loop.example/g01288/impl"
)

// The example at the end of chapter 4.
func TestTestsExample(t *testing.T) {
	for level, want := range map[float32]int16{1: 16, -0.03125: -1, 5000: 32767} {
		if got := impl.LoggerOf(level); got != want {
			t.Errorf("LoggerOf %v: %d, want %d", level, got, want)
		}
	}
	ln, _ := impl.LnOf(8)
	level, slope, code := impl.LineThrough(readingsAt(1, 16, 8, 64))
	if code != impl.OK || math.Abs(float64(level-1)) > 1e-5 || math.Abs(float64(slope-3/ln)) > 1e-5 {
		t.Errorf("the line has %v at 0, and the slope %v, code %d", level, slope, code)
	}
	ties, code := impl.TiesIn(readingsOf(3, 3, 5))
	wantCount(t, "TiesIn", ties, code, 1, impl.OK)
	smooth, code := impl.SmoothedReadings(readingsOf(3, 9, 5))
	wantReadings(t, "SmoothedReadings", smooth, code, readingsOf(3, 5, 5), impl.OK)
	own, code := impl.ReadingsFrom(unitAquifer, unitSite, []int64{1, 4, 9, 20})
	wantCode(t, "ReadingsFrom", code, impl.OK)
	before, code := impl.MisfitOf(unitAquifer, unitSite, own)
	wantCode(t, "MisfitOf", code, impl.OK)
	a, misfit, changed, code := impl.FitFrom(unitAquifer, unitSite, own, impl.MaxRounds)
	wantFit(t, "FitFrom its own readings", a, misfit, changed, code, unitAquifer, before, 0, impl.OK)
}

// Promise 1: every function returns for all arguments, modifies none, and returns equal results for equal ones.

// testText returns what all functions of chapter 4 return, as text.
func testText(c testCall, level float32, text string) string {
	out := ""
	add := func(results ...any) { out += textOf(results...) }
	add(impl.LoggerOf(level), impl.ValidReadings(c.list), impl.ValidSite(c.s))
	if len(c.list) > 0 {
		add(impl.LevelOf(c.list[0]), impl.SameReadings(c.list, c.list[1:]), impl.SameReadings(c.list, c.list))
	}
	add(impl.ReadingsFrom(c.a, c.s, c.times))
	add(impl.LineThrough(c.list))
	add(impl.TransmitOf(c.s, c.slope))
	add(impl.MedianSlope(c.list))
	add(impl.TiesIn(c.list))
	add(impl.SmoothedReadings(c.list))
	add(impl.MisfitOf(c.a, c.s, c.list))
	add(impl.WorstReading(c.a, c.s, c.list))
	add(impl.BestGuess(c.guesses, c.s, c.list))
	add(impl.FitFrom(c.a, c.s, c.list, c.rounds))
	add(impl.FitsWithin(c.guesses, c.s, c.list, c.bound))
	add(impl.TransmitSpan(c.guesses, c.s, c.list, c.bound))
	add(impl.ReadingsText(c.list))
	add(impl.ReadReadings(text))
	return out
}

// anyNumber returns a number of any kind.
func anyNumber(r *rand.Rand) float32 {
	switch r.Intn(3) {
	case 0:
		return oddNumbers[r.Intn(len(oddNumbers))]
	case 1:
		return math.Float32frombits(r.Uint32())
	}
	return float32(10 * r.NormFloat64())
}

// anyTest returns arguments that need not be valid.
func anyTest(r *rand.Rand) testCall {
	c := testCall{a: randomAquifer(r), s: randomSite(r), slope: anyNumber(r), bound: anyNumber(r), rounds: int64(r.Intn(63)) - 1}
	c.guesses = randomGuesses(r, r.Intn(23))
	c.list = randomReadings(r, r.Intn(43))
	c.times = randomTimes(r, r.Intn(43))
	if r.Intn(8) == 0 {
		c.a = impl.Aquifer{Transmit: anyNumber(r), Store: anyNumber(r)}
		c.guesses = append(c.guesses, c.a)
	}
	if r.Intn(8) == 0 {
		c.s = impl.Site{Well: anyWell(r), X: int8(r.Intn(256) - 128), Y: int8(r.Intn(256) - 128)}
	}
	if len(c.list) > 0 && r.Intn(8) == 0 {
		c.list[r.Intn(len(c.list))].Time = wrongMoments[r.Intn(len(wrongMoments))]
	}
	if len(c.times) > 0 && r.Intn(8) == 0 {
		c.times[r.Intn(len(c.times))] = wrongMoments[r.Intn(len(wrongMoments))]
	}
	return c
}

// anyReadingsText returns the text of readings, or one that is nearly so.
func anyReadingsText(r *rand.Rand) string {
	text := []byte(impl.ReadingsText(randomReadings(r, r.Intn(41))))
	for range r.Intn(3) {
		if len(text) > 0 {
			text[r.Intn(len(text))] = byte(r.Intn(256))
		}
	}
	return string(text)
}

// roomy returns a copy with unused capacity, in which something lies.
func roomy[T any](list []T, rest T) []T {
	whole := append(make([]T, 0, len(list)+5), list...)
	return append(whole, rest, rest, rest)[:len(list)]
}

func TestPromise1AllTests(t *testing.T) {
	r := rand.New(rand.NewSource(52))
	for range 4000 {
		first, text, level := anyTest(r), anyReadingsText(r), anyNumber(r)
		second := first
		second.guesses, second.list, second.times = slices.Clone(first.guesses), slices.Clone(first.list), slices.Clone(first.times)
		first.guesses = roomy(first.guesses, impl.Aquifer{Transmit: 3, Store: 0.75})
		first.list, first.times = roomy(first.list, impl.Reading{Time: 77, Level: 7}), roomy(first.times, 77)
		guesses, list, times := slices.Clone(first.guesses[:cap(first.guesses)]), slices.Clone(first.list[:cap(first.list)]), slices.Clone(first.times[:cap(first.times)])
		got := testText(first, level, text)
		if fmt.Sprint(guesses, list, times) != fmt.Sprint(first.guesses[:cap(first.guesses)], first.list[:cap(first.list)], first.times[:cap(first.times)]) {
			t.Fatal("an argument has been modified")
		}
		if again := testText(second, level, text); got != again {
			t.Fatalf("equal arguments, other results:\n%s\n%s", got, again)
		}
	}
}

func TestPromise1NoLists(t *testing.T) {
	for _, c := range []testCall{{}, {a: unitAquifer, s: unitSite}, {a: unitAquifer, s: unitSite, guesses: []impl.Aquifer{unitAquifer}}} {
		other := c
		other.list, other.times = []impl.Reading{}, []int64{}
		if c.guesses == nil {
			other.guesses = []impl.Aquifer{}
		}
		if first, second := testText(c, 0, ""), testText(other, 0, ""); first != second {
			t.Errorf("nil and empty lists have other results:\n%s\n%s", first, second)
		}
	}
}

func TestPromise1ManyElements(t *testing.T) {
	c := goodTest()
	c.guesses, c.list, c.times = make([]impl.Aquifer, 900000), make([]impl.Reading, 900000), make([]int64, 900000)
	for i := range c.guesses {
		c.guesses[i], c.list[i].Time, c.times[i] = unitAquifer, int64(i+1), int64(i+1)
	}
	wantTestCodes(t, "far too many readings", c, withReadings, impl.ErrInvalid)
	c.list = c.list[:impl.MaxReadings]
	wantTestCodes(t, "far too many guesses", c, withGuesses, impl.ErrRange)
	wantTestCodes(t, "far too many times", c, []string{"ReadingsFrom"}, impl.ErrRange)
}

func TestPromise1TestListsAreNew(t *testing.T) {
	list := roomy(readingsAt(1, 3, 2, 9, 5, 5), impl.Reading{Time: 77})
	kept := slices.Clone(list[:cap(list)])
	for _, count := range []int{0, 1, 2, 3} {
		smooth, _ := impl.SmoothedReadings(list[:count])
		for i := range smooth[:cap(smooth)] {
			smooth[:cap(smooth)][i] = impl.Reading{Time: 99}
		}
		if !slices.Equal(list[:cap(list)], kept) {
			t.Fatalf("smoothed readings share memory with the readings: %v", list)
		}
	}
	times := []int64{1, 2, 5}
	first, _ := impl.ReadingsFrom(unitAquifer, unitSite, times)
	read, _ := impl.ReadReadings(someReadingsText)
	fits, _ := impl.FitsWithin([]impl.Aquifer{unitAquifer, unitAquifer}, unitSite, list, infinite)
	want := slices.Clone(first)
	for _, one := range [][]impl.Reading{first, read} {
		for i := range one[:cap(one)] {
			one[:cap(one)][i] = impl.Reading{Time: 99}
		}
	}
	for i := range fits[:cap(fits)] {
		fits[:cap(fits)][i] = 99
	}
	again, code := impl.ReadingsFrom(unitAquifer, unitSite, times)
	wantReadings(t, "ReadingsFrom again", again, code, want, impl.OK)
	read, code = impl.ReadReadings(someReadingsText)
	wantReadings(t, "readings read again", read, code, someReadings, impl.OK)
	fits, code = impl.FitsWithin([]impl.Aquifer{unitAquifer, unitAquifer}, unitSite, list, infinite)
	wantIndices(t, "FitsWithin again", fits, code, []int64{0, 1}, impl.OK)
}

// Promise 10: readings that are smoothed lie among those that there were.

func TestPromise10SmoothedReadings(t *testing.T) {
	r := rand.New(rand.NewSource(53))
	changed := 0
	for i := range 5000 {
		list := randomReadings(r, i%(impl.MaxReadings+1))
		smooth, code := impl.SmoothedReadings(list)
		if code != impl.OK || len(smooth) != len(list) || !impl.ValidReadings(smooth) {
			t.Fatalf("SmoothedReadings %v: %v, code %d", list, smooth, code)
		}
		for j, one := range smooth {
			levels := levelsOf(list[max(j-1, 0):min(j+2, len(list))])
			if one.Time != list[j].Time || !slices.Contains(levels, one.Level) {
				t.Errorf("%v has been smoothed to %v among the levels %v", list[j], one, levels)
			}
			if j == 0 || j == len(list)-1 {
				if one != list[j] {
					t.Errorf("%v, at an end, has been smoothed to %v", list[j], one)
				}
				continue
			}
			if below, above := slices.Min(levels), slices.Max(levels); one.Level < below || one.Level > above {
				t.Errorf("%v has been smoothed to %v, not between %d and %d", list[j], one, below, above)
			}
			if one.Level != list[j].Level {
				changed++
			}
		}
	}
	if changed < 1000 {
		t.Errorf("only %d levels have changed", changed)
	}
}

func TestPromise10SlopesLieBetween(t *testing.T) {
	// The median of slopes lies among them, nearly, too: readings that all rise by as much have no other one.
	for count := 2; count <= 12; count++ {
		var list []impl.Reading
		for i := range count {
			list = append(list, impl.Reading{Time: 1 << i, Level: int16(32 * i)})
		}
		slope, code := impl.MedianSlope(list)
		wantResult(t, fmt.Sprint("MedianSlope ", list), slope, code, medianSlope(list), impl.OK)
		if math.Abs(float64(slope)-2/math.Ln2) > 1e-5 {
			t.Errorf("the slope of %v is %v", list, slope)
		}
	}
}

// Promise 11: a fit is never worse than where it began, and no guess is better than the best one.

func TestPromise11FitsAreNeverWorse(t *testing.T) {
	r := rand.New(rand.NewSource(54))
	better := 0
	for range 500 {
		start := randomAquifer(r)
		s, list := testedSite(r)
		if r.Intn(3) == 0 {
			s, list = randomSite(r), randomReadings(r, r.Intn(10))
		}
		before, code := impl.MisfitOf(start, s, list)
		wantCode(t, "MisfitOf", code, impl.OK)
		least, made := before, int64(0)
		for rounds := range int64(8) {
			a, misfit, changed, code := impl.FitFrom(start, s, list, rounds)
			own, _ := impl.MisfitOf(a, s, list)
			if code != impl.OK || !impl.ValidAquifer(a) || !sameBits(misfit, own) || misfit > before {
				t.Fatalf("a fit from %v with %v ends at %v with %v (%v), code %d", start, before, a, misfit, own, code)
			}
			// One more round changes the aquifer once more, to a better one, or not at all.
			if !(changed == made && misfit == least || changed == made+1 && changed == rounds && misfit < least) {
				t.Errorf("%d rounds have %d changes and %v; the ones before have %d and %v", rounds, changed, misfit, made, least)
			}
			least, made = misfit, changed
		}
		if least < before {
			better++
		}
	}
	if better < 300 {
		t.Errorf("only %d fits are better", better)
	}
}

func TestPromise11NoGuessIsBetter(t *testing.T) {
	r := rand.New(rand.NewSource(55))
	for i := range 2000 {
		guesses := randomGuesses(r, 1+i%impl.MaxGuesses)
		s, list := testedSite(r)
		best, least, code := impl.BestGuess(guesses, s, list)
		wantCode(t, "BestGuess", code, impl.OK)
		for j, a := range guesses {
			misfit, code := impl.MisfitOf(a, s, list)
			wantCode(t, "MisfitOf", code, impl.OK)
			if misfit < least || int64(j) < best && misfit == least || int64(j) == best && !sameBits(misfit, least) {
				t.Errorf("the guess %d has the misfit %v, and the best one, %d, has %v", j, misfit, best, least)
			}
		}
		fits, code := impl.FitsWithin(guesses, s, list, least)
		if code != impl.OK || len(fits) == 0 || fits[0] != best {
			t.Errorf("as good as the best one, %d, are %v, code %d", best, fits, code)
		}
		fits, code = impl.FitsWithin(guesses, s, list, justBelow(least))
		wantIndices(t, "FitsWithin less than the least misfit", fits, code, nil, impl.OK)
	}
}
