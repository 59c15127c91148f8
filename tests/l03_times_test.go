package tests

import (
	"fmt"
	"math"
	"math/rand"
	"testing"

	"loop.example/g01288/impl"
)

// timeUntil and radiusOf look at each time and place, in order.
func timeUntil(a impl.Aquifer, w impl.Well, x, y int64, level float32, most int64) (int64, int64) {
	for time := int64(1); time <= most; time++ {
		if drawdownOf(a, w, x, y, time) >= level {
			return time, impl.OK
		}
	}
	return 0, impl.ErrNotFound
}

func radiusOf(a impl.Aquifer, w impl.Well, time int64, level float32) (int64, int64) {
	n := int64(0)
	for int64(w.X)+n <= impl.MaxPlace && drawdownOf(a, w, int64(w.X)+n, int64(w.Y), time) >= level {
		n++
	}
	if n == 0 {
		return 0, impl.ErrNotFound
	}
	return n - 1, impl.OK
}

func TestRecoveryAt(t *testing.T) {
	r := rand.New(rand.NewSource(14))
	for range 5000 {
		a, w := randomAquifer(r), randomWell(r)
		x, y, stop, time := randomPlace(r), randomPlace(r), randomMoment(r), randomMoment(r)
		if r.Intn(3) == 0 {
			time = min(impl.MaxMoment, stop+int64(r.Intn(2)))
		}
		want := drawdownOf(a, w, x, y, time)
		if time > stop {
			want = minus(want, drawdownOf(a, w, x, y, time-stop))
		}
		s, code := impl.RecoveryAt(a, w, x, y, stop, time)
		wantResult(t, fmt.Sprint("RecoveryAt ", a, w, x, y, stop, time), s, code, want, impl.OK)
	}
	w := impl.Well{Rate: 5}
	for _, stop := range []int64{1, 7, 8, impl.MaxMoment} {
		s, _ := impl.DrawdownAt(unitAquifer, w, 1, 0, stop)
		rest, code := impl.RecoveryAt(unitAquifer, w, 1, 0, stop, stop)
		wantResult(t, "RecoveryAt the time at which it stops", rest, code, s, impl.OK)
	}
	late, code := impl.RecoveryAt(unitAquifer, w, 1, 0, 1, impl.MaxMoment)
	if code != impl.OK || late < 0 || late > 0.0001 {
		t.Errorf("long behind its stop a well has %v, code %d", late, code)
	}
}

func TestTimeUntil(t *testing.T) {
	r := rand.New(rand.NewSource(15))
	found := 0
	for i := range 600 {
		a, w := randomAquifer(r), randomWell(r)
		x, y, most := randomPlace(r), randomPlace(r), 1+int64(r.Intn(3000))
		level := drawdownOf(a, w, x, y, 1+int64(r.Intn(3000)))
		if i%3 == 0 {
			level = randomPlain(r)
		}
		if !impl.IsPlain(level) {
			continue
		}
		want, wantedCode := timeUntil(a, w, x, y, level, most)
		time, code := impl.TimeUntil(a, w, x, y, level, most)
		wantCount(t, fmt.Sprint("TimeUntil ", a, w, x, y, level, most), time, code, want, wantedCode)
		if wantedCode == impl.OK && want > 1 {
			found++
		}
	}
	if found < 50 {
		t.Errorf("only %d times are later than the first one", found)
	}
}

func TestTimeUntilAtEdges(t *testing.T) {
	w := impl.Well{Rate: 5}
	last, _ := impl.DrawdownAt(unitAquifer, w, 3, 0, impl.MaxMoment)
	before, _ := impl.DrawdownAt(unitAquifer, w, 3, 0, 100)
	first, _ := impl.DrawdownAt(unitAquifer, w, 3, 0, 1)
	gain, _ := impl.DrawdownAt(unitAquifer, impl.Well{Rate: -5}, 3, 0, 1)
	for _, c := range []struct {
		name             string
		w                impl.Well
		level            float32
		most, want, code int64
	}{
		{"reached exactly", w, before, 100, 100, impl.OK},
		{"reached exactly, with time left", w, before, 101, 100, impl.OK},
		{"reached a time too late", w, before, 99, 0, impl.ErrNotFound},
		{"a little more", w, justAbove(before), 200, 101, impl.OK},
		{"a little more, without time left", w, justAbove(before), 100, 0, impl.ErrNotFound},
		{"a little less", w, justBelow(before), 200, 100, impl.OK},
		{"reached at once", w, first, 1, 1, impl.OK},
		{"not reached at once", w, justAbove(first), 1, 0, impl.ErrNotFound},
		{"0", w, 0, impl.MaxMoment, 1, impl.OK},
		{"-0", w, negativeZero, impl.MaxMoment, 1, impl.OK},
		{"less than 0", w, -impl.MaxSize, 1, 1, impl.OK},
		{"never reached", w, impl.MaxSize, impl.MaxMoment, 0, impl.ErrNotFound},
		{"never reached, by a little", w, justAbove(last), impl.MaxMoment, 0, impl.ErrNotFound},
		{"no rate, 0", impl.Well{}, 0, 1, 1, impl.OK},
		{"no rate, -0", impl.Well{Rate: negativeZero}, 0, 1, 1, impl.OK},
		{"no rate, the least", impl.Well{}, least, impl.MaxMoment, 0, impl.ErrNotFound},
		{"a gain, reached at once", impl.Well{Rate: -5}, gain, impl.MaxMoment, 1, impl.OK},
		{"a gain, never reached", impl.Well{Rate: -5}, justAbove(gain), impl.MaxMoment, 0, impl.ErrNotFound},
	} {
		time, code := impl.TimeUntil(unitAquifer, c.w, 3, 0, c.level, c.most)
		wantCount(t, "TimeUntil "+c.name, time, code, c.want, c.code)
	}
	time, code := impl.TimeUntil(unitAquifer, w, 3, 0, last, impl.MaxMoment)
	want, wantedCode := timeUntil(unitAquifer, w, 3, 0, last, impl.MaxMoment)
	wantCount(t, "TimeUntil the last drawdown", time, code, want, wantedCode)
}

func TestTimeUntilIsTheFirst(t *testing.T) {
	// What a gain has at first, it has not any more later on; a search from the last time, or by halves, would miss it.
	w := impl.Well{Rate: -5}
	for _, level := range []float32{-1e-5, -0.001, -0.1} {
		for _, most := range []int64{1, 2, 1000, impl.MaxMoment} {
			time, code := impl.TimeUntil(unitAquifer, w, 9, 0, level, most)
			wantCount(t, "TimeUntil of a gain", time, code, 1, impl.OK)
		}
		late, _ := impl.DrawdownAt(unitAquifer, w, 9, 0, 1000)
		if late >= level {
			t.Errorf("at the time 1000 the gain is %v", late)
		}
	}
	// The drawdowns of a rate that is subnormal stay the same for long.
	small := impl.Well{Rate: math.Float32frombits(200)}
	for _, time := range []int64{10, 100, 1000, 10000} {
		level := drawdownOf(unitAquifer, small, 9, 0, time)
		want, wantedCode := timeUntil(unitAquifer, small, 9, 0, level, impl.MaxMoment)
		got, code := impl.TimeUntil(unitAquifer, small, 9, 0, level, impl.MaxMoment)
		wantCount(t, "TimeUntil of a subnormal drawdown", got, code, want, wantedCode)
		if time == 10000 && want >= time {
			t.Errorf("the drawdown at %d is new", time)
		}
	}
}

func TestRadiusOf(t *testing.T) {
	r := rand.New(rand.NewSource(16))
	found := 0
	for i := range 5000 {
		a, w, time := randomAquifer(r), randomWell(r), randomMoment(r)
		level := drawdownOf(a, w, int64(w.X)+int64(r.Intn(30)), int64(w.Y), time)
		if i%3 == 0 {
			level = randomPlain(r)
		}
		if !impl.IsPlain(level) {
			continue
		}
		want, wantedCode := radiusOf(a, w, time, level)
		n, code := impl.RadiusOf(a, w, time, level)
		wantCount(t, fmt.Sprint("RadiusOf ", a, w, time, level), n, code, want, wantedCode)
		if want > 0 && int64(w.X)+want < impl.MaxPlace {
			found++
		}
	}
	if found < 500 {
		t.Errorf("only %d radii end between the wells and the last place", found)
	}
}

func TestRadiusOfAtEdges(t *testing.T) {
	w := impl.Well{Y: 3, Rate: 5}
	own, _ := impl.DrawdownAt(unitAquifer, w, 0, 3, 40)
	east, _ := impl.DrawdownAt(unitAquifer, w, 4, 3, 40)
	for _, c := range []struct {
		name       string
		w          impl.Well
		level      float32
		want, code int64
	}{
		{"of what is reached exactly", w, east, 4, impl.OK},
		{"of a little more", w, justAbove(east), 3, impl.OK},
		{"of a little less", w, justBelow(east), 4, impl.OK},
		{"of its own place", w, own, 0, impl.OK},
		{"of more than at its own place", w, justAbove(own), 0, impl.ErrNotFound},
		{"of 0", w, 0, 100, impl.OK},
		{"of -0", w, negativeZero, 100, impl.OK},
		{"of less than 0", w, -1, 100, impl.OK},
		{"of 0, from the first place", impl.Well{X: -100, Rate: 5}, 0, 200, impl.OK},
		{"of 0, from the last place", impl.Well{X: 100, Y: -100, Rate: 5}, 0, 0, impl.OK},
		{"of 0, ahead of the last place", impl.Well{X: 99, Y: 100, Rate: 5}, 0, 1, impl.OK},
		{"of no rate", impl.Well{}, 0, 100, impl.OK},
		{"of no rate, less than 0", impl.Well{Rate: negativeZero}, 0, 100, impl.OK},
		{"of the least, without a rate", impl.Well{}, least, 0, impl.ErrNotFound},
		{"of a gain that is not there at the well, but further east", impl.Well{Y: 3, Rate: -5}, -east, 0, impl.ErrNotFound},
		{"of a gain that is there at the well", impl.Well{Y: 3, Rate: -5}, -own, 100, impl.OK},
	} {
		n, code := impl.RadiusOf(unitAquifer, c.w, 40, c.level)
		wantCount(t, "RadiusOf "+c.name, n, code, c.want, c.code)
	}
}
