package tests

import (
	"fmt"
	"math"
	"testing"

	"loop.example/g01288/impl"
)

// testCall is what the functions of chapter 4 that have a code are called with.
type testCall struct {
	a       impl.Aquifer
	guesses []impl.Aquifer
	s       impl.Site
	list    []impl.Reading
	times   []int64
	slope   float32
	bound   float32
	rounds  int64
}

// goodTest is one of which no function has an error.
func goodTest() testCall {
	return testCall{
		a: unitAquifer, guesses: []impl.Aquifer{{Transmit: 2, Store: 0.5}, unitAquifer}, s: unitSite,
		list: readingsAt(1, 30, 5, 80, 20, 90), times: []int64{3, 4}, slope: 1, bound: infinite, rounds: 3,
	}
}

// testResults calls these functions; it returns their codes, and tells of results that are not nothing beside an error.
func testResults(t *testing.T, c testCall) map[string]int64 {
	t.Helper()
	codes, note := noteCodes(t)
	list, code := impl.ReadingsFrom(c.a, c.s, c.times)
	note("ReadingsFrom", code, list)
	a, b, code := impl.LineThrough(c.list)
	note("LineThrough", code, a, b)
	a, code = impl.TransmitOf(c.s, c.slope)
	note("TransmitOf", code, a)
	a, code = impl.MedianSlope(c.list)
	note("MedianSlope", code, a)
	n, code := impl.TiesIn(c.list)
	note("TiesIn", code, n)
	list, code = impl.SmoothedReadings(c.list)
	note("SmoothedReadings", code, list)
	a, code = impl.MisfitOf(c.a, c.s, c.list)
	note("MisfitOf", code, a)
	n, a, code = impl.WorstReading(c.a, c.s, c.list)
	note("WorstReading", code, n, a)
	n, a, code = impl.BestGuess(c.guesses, c.s, c.list)
	note("BestGuess", code, n, a)
	fit, a, n, code := impl.FitFrom(c.a, c.s, c.list, c.rounds)
	note("FitFrom", code, fit, a, n)
	fits, code := impl.FitsWithin(c.guesses, c.s, c.list, c.bound)
	note("FitsWithin", code, fits)
	a, b, code = impl.TransmitSpan(c.guesses, c.s, c.list, c.bound)
	note("TransmitSpan", code, a, b)
	return codes
}

var (
	withAquifer  = []string{"ReadingsFrom", "MisfitOf", "WorstReading", "FitFrom"}
	withGuesses  = []string{"BestGuess", "FitsWithin", "TransmitSpan"}
	withSite     = append(append([]string{"TransmitOf"}, withAquifer...), withGuesses...)
	withReadings = append([]string{"LineThrough", "MedianSlope", "TiesIn", "SmoothedReadings", "MisfitOf", "WorstReading", "FitFrom"}, withGuesses...)
	withTest     = append([]string{"ReadingsFrom", "TransmitOf"}, withReadings...)
)

// wantTestCodes checks the codes of some functions.
func wantTestCodes(t *testing.T, what string, c testCall, names []string, want int64) {
	t.Helper()
	codes := testResults(t, c)
	for _, name := range names {
		wantCode(t, fmt.Sprint(name, " with ", what, ": ", c.a, len(c.guesses), c.s, len(c.list), len(c.times), c.slope, c.bound, c.rounds), codes[name], want)
	}
}

// worseTests returns the call, and such ones with errors that come behind ErrInvalid.
func worseTests(c testCall) []testCall {
	list := []testCall{c}
	for _, change := range []func(c *testCall){
		func(c *testCall) { c.times = []int64{0} },
		func(c *testCall) { c.slope = 0 },
		func(c *testCall) { c.bound = notANumber },
		func(c *testCall) { c.rounds = -1 },
		func(c *testCall) { c.list = nil },
		func(c *testCall) { c.list = readingsAt(234, 0, 235, 0) },
	} {
		worse := c
		change(&worse)
		list = append(list, worse)
	}
	return list
}

func TestTestsWithoutErrors(t *testing.T) {
	c := goodTest()
	wantTestCodes(t, "nothing wrong", c, withTest, impl.OK)
	for _, a := range someAquifers {
		c = goodTest()
		c.a, c.guesses = a, []impl.Aquifer{a}
		wantTestCodes(t, "an aquifer at an edge", c, withTest, impl.OK)
	}
	for _, n := range []int8{-100, 100} {
		c = goodTest()
		c.s = impl.Site{Well: impl.Well{X: -n, Y: n, Rate: 9}, X: n, Y: n}
		wantTestCodes(t, "a site at an edge", c, withTest, impl.OK)
	}
	c = goodTest()
	c.guesses, c.list, c.rounds = make([]impl.Aquifer, impl.MaxGuesses), manyReadings(impl.MaxReadings), impl.MaxRounds
	for i := range c.guesses {
		c.guesses[i] = unitAquifer
	}
	wantTestCodes(t, "all that may be", c, withTest, impl.OK)
	c.guesses, c.rounds, c.times = c.guesses[:1], 0, nil
	wantTestCodes(t, "as little as may be", c, withTest, impl.OK)
	c.list = nil
	wantTestCodes(t, "no readings", c, []string{"TiesIn", "SmoothedReadings", "MisfitOf", "BestGuess", "FitFrom", "FitsWithin", "TransmitSpan"}, impl.OK)
	wantTestCodes(t, "no readings", c, []string{"LineThrough", "MedianSlope", "WorstReading"}, impl.ErrNotFound)
	c.list = readingsAt(9, 9)
	wantTestCodes(t, "one reading", c, []string{"LineThrough", "MedianSlope"}, impl.ErrNotFound)
	wantTestCodes(t, "one reading", c, []string{"WorstReading"}, impl.OK)
	c.list = readingsAt(234, 0, 235, 0)
	wantTestCodes(t, "readings close together", c, []string{"LineThrough"}, impl.ErrState)
}

func TestTestsCheckAquifersFirst(t *testing.T) {
	for _, a := range wrongAquifers() {
		for _, c := range worseTests(goodTest()) {
			c.a = a
			wantTestCodes(t, "a wrong aquifer", c, withAquifer, impl.ErrInvalid)
			for _, guesses := range [][]impl.Aquifer{{a}, {unitAquifer, a}, {a, unitAquifer}} {
				c.guesses = guesses
				wantTestCodes(t, "a wrong guess", c, withGuesses, impl.ErrInvalid)
			}
		}
	}
	for _, at := range []int{0, 19, 20, 29} {
		c := goodTest()
		c.guesses = make([]impl.Aquifer, 30)
		for i := range c.guesses {
			c.guesses[i] = unitAquifer
		}
		wantTestCodes(t, "thirty guesses", c, withGuesses, impl.ErrRange)
		c.guesses[at].Store = 0
		wantTestCodes(t, "thirty guesses, and a wrong one", c, withGuesses, impl.ErrInvalid)
	}
}

func TestTestsCheckSitesFirst(t *testing.T) {
	for _, s := range wrongSites() {
		for _, c := range worseTests(goodTest()) {
			c.s = s
			wantTestCodes(t, "a wrong site", c, withSite, impl.ErrInvalid)
			c.guesses = nil
			wantTestCodes(t, "a wrong site, and no guesses", c, withGuesses, impl.ErrInvalid)
		}
	}
}

func TestTestsCheckReadingsFirst(t *testing.T) {
	for _, list := range append(wrongReadings(), make([]impl.Reading, 1000000)) {
		for _, c := range worseTests(goodTest()) {
			c.list = list
			wantTestCodes(t, "wrong readings", c, withReadings, impl.ErrInvalid)
			c.guesses = nil
			wantTestCodes(t, "wrong readings, and no guesses", c, withGuesses, impl.ErrInvalid)
		}
	}
}

func TestTestsCheckRangesNext(t *testing.T) {
	for _, list := range [][]impl.Reading{nil, readingsAt(1, 5), readingsAt(1, 5, 2, 6)} {
		for _, bound := range []float32{notANumber, -infinite, infinite} {
			c := goodTest()
			c.list, c.bound = list, bound
			for _, count := range []int{0, impl.MaxGuesses + 1, 22, 900000} {
				c.guesses = make([]impl.Aquifer, count)
				for i := range c.guesses {
					c.guesses[i] = unitAquifer
				}
				wantTestCodes(t, "too many or too few guesses", c, withGuesses, impl.ErrRange)
			}
			for _, rounds := range []int64{-1, impl.MaxRounds + 1, 1 << 32, 1 << 40, math.MaxInt64, math.MinInt64} {
				c.rounds = rounds
				wantTestCodes(t, "wrong rounds", c, []string{"FitFrom"}, impl.ErrRange)
			}
		}
	}
	for _, times := range wrongTimes() {
		c := goodTest()
		c.times = times
		wantTestCodes(t, "wrong times", c, []string{"ReadingsFrom"}, impl.ErrRange)
	}
	c := goodTest()
	c.bound = notANumber
	wantTestCodes(t, "no fits", c, []string{"TransmitSpan"}, impl.ErrNotFound)
	wantTestCodes(t, "no fits", c, []string{"FitsWithin"}, impl.OK)
}
