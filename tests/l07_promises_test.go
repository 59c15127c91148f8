package tests

import (
	"fmt"
	"math"
	"math/rand"
	"slices"
	"testing"

	"loop.example/g01288/impl"
)

// The example at the end of chapter 7.
func TestPermitsExample(t *testing.T) {
	o, p := officeExample(t), permitExample
	kept, code := impl.AreKept(o, []impl.Permit{p})
	wantYes(t, "a permit", kept, code, true, impl.OK)
	levels, code := impl.LevelsWith(o, []impl.Permit{p})
	wantCode(t, "LevelsWith", code, impl.OK)
	if len(levels) != 1 || math.Abs(float64(levels[0])+1) > 0.02 {
		t.Errorf("the levels with a permit are %v", levels)
	}
	kept, code = impl.AreKept(o, []impl.Permit{p, p})
	wantYes(t, "two of them", kept, code, false, impl.OK)
	granted, code := impl.GrantInOrder(o, []impl.Permit{p, p, p})
	wantIndices(t, "GrantInOrder", granted, code, []int64{0}, impl.OK)
	wantScaled(t, permitsAt(9, 7), 50, permitsAt(9, 3), impl.OK)
	wantShares(t, "the owner 2", permitsOf(2, 9, 4, 2, 9, 3), [8]int64{2: 7}, impl.OK)
	g, code := impl.WithHead(o.Ground, 1, 1.25)
	wantCode(t, "WithHead", code, impl.OK)
	g, code = impl.WithHead(g, 8, 1000)
	wantCode(t, "WithHead", code, impl.OK)
	wantLevels(t, "the example", g, [64]int16{1: 125, 8: 32767}, impl.OK)
}

// Promise 1: every function returns for all arguments, modifies none, and returns equal results for equal ones.

// anyPermit are arguments that need not be valid.
type anyPermit struct {
	o       impl.Office
	list    []impl.Permit
	granted []int64
	percent int64
	a, b    [64]int16
	text    string
}

// permitText returns what all functions of chapter 7 return, as text.
func permitText(c anyPermit) string {
	out := ""
	add := func(results ...any) { out += textOf(results...) }
	add(impl.ValidOffice(c.o), impl.ValidPermits(c.o, c.list), impl.PermitsText(c.list))
	add(impl.GroundWith(c.o, c.list))
	add(impl.LevelsWith(c.o, c.list))
	add(impl.FirstBelow(c.o, c.list))
	add(impl.AreKept(c.o, c.list))
	add(impl.GrantInOrder(c.o, c.list))
	add(impl.CheckGrant(c.o, c.list, c.granted))
	add(impl.FewestRefused(c.o, c.list))
	add(impl.MostWater(c.o, c.list))
	add(impl.ScaledPermits(c.list, c.percent))
	add(impl.GreatestPercent(c.o, c.list))
	add(impl.SharesOfOwners(c.list))
	add(impl.LoggedLevels(c.o.Ground))
	add(impl.DropsLogged(c.a, c.b))
	add(impl.ReadPermits(c.text))
	return out
}

// anyPermitsText returns the text of permits, or one that is nearly so.
func anyPermitsText(r *rand.Rand, list []impl.Permit) string {
	text := []byte(impl.PermitsText(list))
	for range r.Intn(3) {
		if len(text) > 0 {
			text[r.Intn(len(text))] = byte(r.Intn(256))
		}
	}
	return string(text)
}

func anyPermitOf(r *rand.Rand) anyPermit {
	o, list := randomOffice(r)
	c := anyPermit{o: o, list: list, granted: grantedOf(o, list), percent: r.Int63n(101)}
	switch r.Intn(12) {
	case 0:
		c.o.Ground = anyGround(r)
	case 1:
		c.o.Watches = append(c.o.Watches, impl.Watch{Cell: int8(r.Intn(256) - 128), Level: anyNumber(r)})
	case 2:
		c.list = append(c.list, impl.Permit{Owner: int8(r.Intn(256) - 128), Cell: int8(r.Intn(256) - 128), Rate: int16(r.Intn(65536) - 32768)})
	case 3:
		c.granted = append(c.granted, []int64{-1, 0, 1, 5, 6, math.MaxInt64, math.MinInt64}[r.Intn(7)])
	case 4:
		c.percent = wrongPercents[r.Intn(len(wrongPercents))]
	}
	for cell := range c.a {
		c.a[cell], c.b[cell] = randomLevel(r), randomLevel(r)
	}
	c.text = anyPermitsText(r, c.list)
	return c
}

// listsIn tells of all lists in arguments, with what lies in their unused capacity.
func listsIn(c anyPermit) string {
	return fmt.Sprint(c.o.Watches[:cap(c.o.Watches)], c.list[:cap(c.list)], c.granted[:cap(c.granted)])
}

func TestPromise1AllPermits(t *testing.T) {
	r := rand.New(rand.NewSource(119))
	for range 300 {
		first := anyPermitOf(r)
		second := first
		second.o.Watches, second.list, second.granted = slices.Clone(first.o.Watches), slices.Clone(first.list), slices.Clone(first.granted)
		first.o.Watches = roomy(first.o.Watches, impl.Watch{Cell: 77, Level: 77})
		first.list, first.granted = roomy(first.list, impl.Permit{Rate: 77}), roomy(first.granted, 77)
		before := listsIn(first)
		got := permitText(first)
		if listsIn(first) != before || !sameGround(first.o.Ground, second.o.Ground) || first.a != second.a || first.b != second.b {
			t.Fatal("an argument has been modified")
		}
		if again := permitText(second); got != again {
			t.Fatalf("equal arguments, other results:\n%s\n%s", got, again)
		}
	}
}

func TestPromise1NoPermitLists(t *testing.T) {
	for _, o := range []impl.Office{{}, {Ground: example(t)}, officeExample(t), neverOffice(t)} {
		other := o
		if o.Watches == nil {
			other.Watches = []impl.Watch{}
		}
		nothing, empty := permitText(anyPermit{o: o}), permitText(anyPermit{o: other, list: []impl.Permit{}, granted: []int64{}})
		if nothing != empty {
			t.Errorf("an empty list is not as none:\n%s\n%s", nothing, empty)
		}
	}
}

func TestPromise1LongPermitLists(t *testing.T) {
	const many = 1000000
	c := anyPermit{o: officeExample(t), list: make([]impl.Permit, many), granted: make([]int64, many)}
	if permitText(c) != permitText(anyPermit{o: c.o, list: c.list[:impl.MaxPermits+1], granted: c.granted}) {
		t.Error("a long list of permits is not as one that is too long")
	}
	c.list = permitsAt(9, 1, 2)
	c.o.Watches = make([]impl.Watch, many)
	if permitText(c) != permitText(anyPermit{o: watching(c.o.Ground, c.o.Watches[:impl.MaxWatches+1]...), list: c.list, granted: c.granted}) {
		t.Error("a long list of watches is not as one that is too long")
	}
}

func TestPromise1PermitsAtTheSameTime(t *testing.T) {
	o := watching(calmGrounds(1)[0], impl.Watch{Cell: 1, Level: -20}, impl.Watch{Cell: 9, Level: -30})
	c := anyPermit{o: o, list: permitsAt(9, 5, 40, 0, 7), granted: []int64{0}, percent: 33, a: [64]int16{5: 5}, text: somePermitsText}
	want := permitText(c)
	got := make(chan string)
	const callers = 20
	for range callers {
		go func() { got <- permitText(c) }()
	}
	for range callers {
		if again := <-got; again != want {
			t.Errorf("equal arguments at the same time, other results:\n%s\n%s", again, want)
		}
	}
}

// wantNew checks that a list is no other one when all that can be reached of an earlier one has been overwritten.
func wantNew[T comparable](t *testing.T, name string, list func() []T, other T) {
	t.Helper()
	before, changed := list(), list()
	for i := range changed[:cap(changed)] {
		changed[:cap(changed)][i] = other
	}
	if after := list(); !slices.Equal(after, before) || slices.Contains(before, other) {
		t.Errorf("%s behind a change: %v, and not %v", name, after, before)
	}
}

func TestPromise1PermitListsAreNew(t *testing.T) {
	o, list := wellOffice(t, 12), permitsAt(8, 4, 5, 4, 0, 3)
	o.Watches = append(o.Watches, impl.Watch{Cell: 10, Level: -1})
	wantNew(t, "LevelsWith", func() []float32 { levels, _ := impl.LevelsWith(o, list); return levels }, 77)
	wantNew(t, "GrantInOrder", func() []int64 { granted, _ := impl.GrantInOrder(o, list); return granted }, 77)
	wantNew(t, "FewestRefused", func() []int64 { few, _ := impl.FewestRefused(o, list); return few }, 77)
	wantNew(t, "MostWater", func() []int64 { most, _, _ := impl.MostWater(o, list); return most }, 77)
	wantNew(t, "ReadPermits", func() []impl.Permit { read, _ := impl.ReadPermits(somePermitsText); return read }, impl.Permit{Rate: 77})
	for _, percent := range []int64{0, 50, 100} {
		wantNew(t, "ScaledPermits", func() []impl.Permit { scaled, _ := impl.ScaledPermits(list, percent); return scaled }, impl.Permit{Rate: 77})
	}
	if want := permitsAt(8, 4, 5, 4, 0, 3); !slices.Equal(list, want) {
		t.Errorf("the permits have become %v", list)
	}
}

// Promise 16: permits are kept where no level is below.

func TestPromise16KeptWhereNoLevelIsBelow(t *testing.T) {
	r := rand.New(rand.NewSource(120))
	found := map[bool]int{}
	for range 400 {
		o, list := randomOffice(r)
		g, groundCode := impl.GroundWith(o, list)
		levels, code := impl.LevelsWith(o, list)
		wantCode(t, "LevelsWith", code, groundCode)
		first := -1
		for i, w := range o.Watches {
			if groundCode == impl.OK {
				wantNumber(t, "a level", levels[i], g.Heads[w.Cell])
				if first < 0 && g.Heads[w.Cell] < w.Level {
					first = i
				}
			}
		}
		kept, code := impl.AreKept(o, list)
		wantYes(t, "AreKept", kept, code, groundCode == impl.OK && first < 0, impl.OK)
		at, missing, code := impl.FirstBelow(o, list)
		switch {
		case groundCode != impl.OK:
			wantIndex(t, "no ground", at, missing, code, 0, 0, groundCode)
		case first < 0:
			wantIndex(t, "none below", at, missing, code, 0, 0, impl.ErrNotFound)
		default:
			wantIndex(t, "one below", at, missing, code, int64(first), minus(o.Watches[first].Level, levels[first]), impl.OK)
		}
		found[kept]++
	}
	if found[true] < 50 || found[false] < 50 {
		t.Errorf("these offices are too much alike: %v", found)
	}
}

func TestPromise16ExactLevels(t *testing.T) {
	r := rand.New(rand.NewSource(121))
	for range 200 {
		o, list := randomOffice(r)
		g, code := impl.GroundWith(o, list)
		if code != impl.OK || len(o.Watches) == 0 {
			continue
		}
		for i, w := range o.Watches {
			o.Watches[i].Level = g.Heads[w.Cell]
		}
		kept, code := impl.AreKept(o, list)
		wantYes(t, "heads that are just the levels", kept, code, true, impl.OK)
		i := r.Intn(len(o.Watches))
		o.Watches[i].Level = justAbove(o.Watches[i].Level)
		kept, code = impl.AreKept(o, list)
		wantYes(t, "a level that is just above the head", kept, code, false, impl.OK)
	}
}

// Promise 17: what is granted in order is kept, if nothing is, too; the fewest that are refused are no more than those that are refused in order.

// checkGrants checks this of an office, and returns how many permits are refused in order, and at least.
func checkGrants(t *testing.T, o impl.Office, list []impl.Permit) (int, int) {
	t.Helper()
	granted, code := impl.GrantInOrder(o, list)
	wantCode(t, "GrantInOrder", code, impl.OK)
	yes, code := impl.CheckGrant(o, list, granted)
	wantYes(t, "CheckGrant of what is granted", yes, code, true, impl.OK)
	nothing, _ := impl.AreKept(o, nil)
	kept, code := impl.AreKept(o, chosenOf(list, granted))
	wantYes(t, "what is granted in order is kept", kept, code, nothing || len(granted) > 0, impl.OK)
	few, code := impl.FewestRefused(o, list)
	most, sum, mostCode := impl.MostWater(o, list)
	wantCode(t, "MostWater, as FewestRefused", mostCode, code)
	if code != impl.OK {
		if kept {
			t.Errorf("%v are kept, but FewestRefused has the code %d", granted, code)
		}
		return len(list) - len(granted), len(list)
	}
	for name, indices := range map[string][]int64{"FewestRefused": few, "MostWater": most} {
		kept, code = impl.AreKept(o, chosenOf(list, indices))
		wantYes(t, name+" is kept", kept, code, true, impl.OK)
	}
	if len(few) < len(granted) || len(few) < len(most) {
		t.Errorf("with FewestRefused %v are granted, in order %v, and for the most water %v", few, granted, most)
	}
	if sum != ratesOf(chosenOf(list, most)) || sum < ratesOf(chosenOf(list, granted)) || sum < ratesOf(chosenOf(list, few)) {
		t.Errorf("the most water is %d of %v", sum, most)
	}
	return len(list) - len(granted), len(list) - len(few)
}

func TestPromise17Grants(t *testing.T) {
	r := rand.New(rand.NewSource(122))
	fewer := 0
	for range 150 {
		o, list := randomOffice(r)
		inOrder, atLeast := checkGrants(t, o, list)
		if atLeast < inOrder {
			fewer++
		}
	}
	for range 400 {
		rates := make([]int16, 3+r.Intn(impl.MaxPermits-2))
		for i := range rates {
			rates[i] = int16(r.Intn(30))
		}
		inOrder, atLeast := checkGrants(t, wellOffice(t, int64(r.Intn(60))), permitsAt(8, rates...))
		if atLeast < inOrder {
			fewer++
		}
	}
	if fewer < 20 {
		t.Errorf("only %d times fewer are refused than in order", fewer)
	}
	for _, list := range [][]impl.Permit{nil, permitsAt(9, 8), permitsAt(9, 4, 4), permitsAt(9, 4, 8, 1, 0)} {
		checkGrants(t, fallingOffice(t), list)
		checkGrants(t, neverOffice(t), list)
		checkGrants(t, watching(bursting(t)), list)
	}
}

func TestPromise17PercentsAreKept(t *testing.T) {
	r := rand.New(rand.NewSource(123))
	for range 100 {
		o, list := randomOffice(r)
		greatest, code := impl.GreatestPercent(o, list)
		last := greatest
		if code != impl.OK {
			wantCount(t, "GreatestPercent", greatest, code, 0, impl.ErrNotFound)
			last = -1
		}
		for percent := int64(100); percent >= max(last, 0); percent-- {
			scaled, code := impl.ScaledPermits(list, percent)
			wantCode(t, "ScaledPermits", code, impl.OK)
			kept, code := impl.AreKept(o, scaled)
			wantYes(t, fmt.Sprint(percent, " percent, and ", last, " the greatest"), kept, code, percent == last, impl.OK)
		}
	}
}

// Promise 18: what a logger keeps is nearest to its head.

func TestPromise18LoggersAreNearest(t *testing.T) {
	r := rand.New(rand.NewSource(124))
	looked := 0
	for _, g := range manyGrounds(300) {
		for _, cell := range cellsOf(g) {
			if r.Intn(2) == 0 {
				g.Heads[cell] = float32(r.Intn(5200)-2600) / 8
			}
		}
		levels, code := impl.LoggedLevels(g)
		wantCode(t, "LoggedLevels", code, impl.OK)
		for _, cell := range cellsOf(g) {
			// All of these are exact, as the wide numbers have more bits than are needed.
			wide, level := 100*float64(g.Heads[cell]), float64(levels[cell])
			gap := math.Abs(wide - level)
			isHalf, isBound := gap == 0.5, level == -32768 && wide < level || level == 32767 && wide > level
			if gap > 0.5 && !isBound || isHalf && !isBound && math.Abs(level) < math.Abs(wide) {
				t.Errorf("of the head %v a logger keeps %v", g.Heads[cell], level)
			}
			looked++
		}
	}
	if looked < 10000 {
		t.Errorf("only %d heads have been looked at", looked)
	}
}
