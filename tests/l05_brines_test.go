package tests

import (
	"fmt"
	"math"
	"testing"

	"loop.example/g01288/impl"
)

func TestValidBrine(t *testing.T) {
	for _, b := range append(randomBrines(300), brineExample(t), filling(t, 5), draining(t, 1, 2, 3)) {
		if !impl.ValidBrine(b) {
			t.Fatalf("%v is not valid", b)
		}
	}
	for _, a := range []float32{0, negativeZero, least, 1, justBelow(impl.MaxSize), impl.MaxSize} {
		for _, cell := range []int64{0, 1, 8, 9} {
			b := brineExample(t)
			b.Salt[cell], b.Spring[9-cell] = a, a
			if !impl.ValidBrine(b) {
				t.Errorf("a brine with the salt and the spring %v is not valid", a)
			}
		}
	}
	for _, room := range []float32{1.0 / 1024, justAbove(1.0 / 1024), 1, justBelow(impl.MaxSize), impl.MaxSize} {
		b := brineExample(t)
		b.Room = room
		if !impl.ValidBrine(b) {
			t.Errorf("a brine with the room %v is not valid", room)
		}
	}
	b := brineExample(t)
	for _, cell := range []int64{2, 7, 10, 16, 63} {
		b.Salt[cell], b.Spring[cell] = negativeZero, negativeZero
		b.Ground.Heads[cell] = negativeZero
	}
	if !impl.ValidBrine(b) {
		t.Error("a brine with -0 at numbers that are no cells is not valid")
	}
}

func TestBrokenBrinesAreNotValid(t *testing.T) {
	for _, broken := range brokenBrines(t) {
		if impl.ValidBrine(broken.brine) {
			t.Errorf("a brine with %s is valid: %v", broken.name, broken.brine)
		}
	}
}

func TestSameBrine(t *testing.T) {
	all := []impl.Brine{{}, brineExample(t), filling(t, 5)}
	for _, change := range []func(b *impl.Brine){
		func(b *impl.Brine) { b.Ground.Wide = 3 },
		func(b *impl.Brine) { b.Ground.High = 3 },
		func(b *impl.Brine) { b.Ground.Fixed = 2 },
		func(b *impl.Brine) { b.Ground.Conduct[9] = 3 },
		func(b *impl.Brine) { b.Ground.Gain[63] = notANumber },
		func(b *impl.Brine) { b.Ground.Heads[2] = negativeZero },
		func(b *impl.Brine) { b.Salt[0] = negativeZero },
		func(b *impl.Brine) { b.Salt[63] = notANumber },
		func(b *impl.Brine) { b.Salt[1] = justAbove(4) },
		func(b *impl.Brine) { b.Spring[0] = negativeZero },
		func(b *impl.Brine) { b.Spring[63] = notANumber },
		func(b *impl.Brine) { b.Spring[1] = least },
		func(b *impl.Brine) { b.Room = -10 },
		func(b *impl.Brine) { b.Room = notANumber },
		func(b *impl.Brine) { b.Room = 0 },
		func(b *impl.Brine) { b.Room = negativeZero },
	} {
		b := brineExample(t)
		change(&b)
		all = append(all, b)
	}
	for i, a := range all {
		for j, b := range all {
			if got := impl.SameBrine(a, b); got != (i == j) {
				t.Errorf("SameBrine of %v and %v: %v", a, b, got)
			}
		}
	}
	for i, b := range randomBrines(100) {
		for j, other := range randomBrines(100) {
			if got := impl.SameBrine(b, other); got != (i == j) {
				t.Errorf("SameBrine of the brines %d and %d: %v", i, j, got)
			}
		}
	}
}

func TestSaltIn(t *testing.T) {
	sum, code := impl.SaltIn(brineExample(t))
	wantResult(t, "the example", sum, code, 40, impl.OK)
	b := filling(t, 5)
	sum, code = impl.SaltIn(b)
	wantResult(t, "no salt", sum, code, 0, impl.OK)
	b.Salt = impl.Field{0: negativeZero, 1: negativeZero, 8: negativeZero, 9: negativeZero}
	sum, code = impl.SaltIn(b)
	wantResult(t, "the salt -0 alone", sum, code, negativeZero, impl.OK)
	b.Salt[8] = 0
	sum, code = impl.SaltIn(b)
	wantResult(t, "0 and -0", sum, code, 0, impl.OK)
	// Each product is rounded, and then each sum: 1 is lost behind 2 to the power 25, but not ahead of it.
	b.Room = 32
	b.Salt = impl.Field{0: 1.0 / 32, 1: 1.0 / 32, 8: impl.MaxSize, 9: 1.0 / 32}
	sum, code = impl.SaltIn(b)
	wantResult(t, "in ascending order", sum, code, 1<<25, impl.OK)
	b.Salt = impl.Field{0: 3.0 / 32, 1: impl.MaxSize, 8: 1.0 / 32, 9: 1.0 / 32}
	sum, code = impl.SaltIn(b)
	wantResult(t, "a greater one ahead", sum, code, 1<<25+4, impl.OK)
	b.Room = 0.5
	b.Salt = impl.Field{0: least, 1: 3 * least, 8: least, 9: least}
	sum, code = impl.SaltIn(b)
	wantResult(t, "halves of subnormal numbers, that go to the even one", sum, code, 2*least, impl.OK)
	b = impl.Brine{Ground: even(t, 8, 8, 0, 0), Room: impl.MaxSize}
	for cell := range b.Salt {
		b.Salt[cell] = impl.MaxSize
	}
	sum, code = impl.SaltIn(b)
	wantResult(t, "as much as can be", sum, code, 1<<46, impl.OK)
	for _, b := range randomBrines(300) {
		sum, code := impl.SaltIn(b)
		wantResult(t, "some brine", sum, code, saltSumOf(b), impl.OK)
	}
}

func TestFrontOf(t *testing.T) {
	b := filling(t, 5)
	b.Salt = impl.Field{0: 3, 1: least, 2: negativeZero, 8: negativeZero, 9: 3, 63: negativeZero}
	const all = 1 | 1<<1 | 1<<8 | 1<<9
	for _, c := range []struct {
		level float32
		want  uint64
	}{
		{3, 1 | 1<<9}, {justAbove(3), 0}, {justBelow(3), 1 | 1<<9}, {least, all &^ (1 << 8)}, {2 * least, 1 | 1<<9},
		{0, all}, {negativeZero, all}, {-least, all}, {-infinite, all}, {infinite, 0}, {math.MaxFloat32, 0}, {notANumber, 0},
	} {
		front, code := impl.FrontOf(b, c.level)
		if front != c.want || code != impl.OK {
			t.Errorf("FrontOf %v: %x, code %d, want %x", c.level, front, code, c.want)
		}
	}
	for _, b := range randomBrines(300) {
		for _, level := range []float32{0, 1, least, b.Salt[0], b.Salt[9]} {
			want := uint64(0)
			for _, cell := range cellsOf(b.Ground) {
				if b.Salt[cell] >= level {
					want |= 1 << cell
				}
			}
			front, code := impl.FrontOf(b, level)
			if front != want || code != impl.OK {
				t.Errorf("FrontOf %v: %x, code %d, want %x", level, front, code, want)
			}
		}
	}
}

func TestSaltiestCell(t *testing.T) {
	for _, c := range []struct {
		name string
		salt impl.Field
		want int64
	}{
		{"the example", impl.Field{1: 4}, 1},
		{"no salt", impl.Field{}, 0},
		{"-0 ahead of 0", impl.Field{0: negativeZero}, 0},
		{"0 ahead of -0", impl.Field{1: negativeZero, 8: negativeZero, 9: negativeZero}, 0},
		{"the first one of several", impl.Field{1: 7, 8: 7, 9: 7}, 1},
		{"the first one of all", impl.Field{0: 7, 1: 7, 8: 7, 9: 7}, 0},
		{"the last one", impl.Field{0: 7, 1: 7, 8: 7, 9: justAbove(7)}, 9},
		{"the least salt that there is", impl.Field{0: negativeZero, 8: least}, 8},
		{"subnormal numbers", impl.Field{0: least, 1: 3 * least, 8: 2 * least, 9: 3 * least}, 1},
	} {
		b := brineExample(t)
		b.Salt = c.salt
		cell, salt, code := impl.SaltiestCell(b)
		wantIndex(t, c.name, cell, salt, code, c.want, c.salt[c.want], impl.OK)
	}
	for _, b := range randomBrines(300) {
		want := int64(0)
		for _, cell := range cellsOf(b.Ground) {
			if b.Salt[cell] > b.Salt[want] {
				want = cell
			}
		}
		cell, salt, code := impl.SaltiestCell(b)
		wantIndex(t, "some brine", cell, salt, code, want, b.Salt[want], impl.OK)
	}
}

func TestMixBrines(t *testing.T) {
	a, b := brineExample(t), brineExample(t)
	a.Salt, a.Spring = impl.Field{0: 8, 1: 4, 8: 0, 9: 5}, impl.Field{8: 7}
	b.Salt, b.Spring = impl.Field{0: 4, 1: 4, 8: 2, 9: 3}, impl.Field{9: 6}
	b.Ground = even(t, 2, 2, 3, 1)
	b.Ground.Fixed, b.Room = 1<<9, 3
	mixed, code := impl.MixBrines(a, b, 0.25)
	wantSalt(t, "a quarter, also of the fixed cell", mixed, code, a, impl.Field{0: 7, 1: 4, 8: 0.5, 9: 4.5})
	mixed, code = impl.MixBrines(a, b, 0)
	wantSalt(t, "nothing", mixed, code, a, a.Salt)
	mixed, code = impl.MixBrines(a, b, negativeZero)
	wantSalt(t, "-0", mixed, code, a, a.Salt)
	mixed, code = impl.MixBrines(a, b, 1)
	wantSalt(t, "all", mixed, code, a, b.Salt)
	a.Salt = impl.Field{0: negativeZero, 1: negativeZero, 2: negativeZero, 8: negativeZero, 9: least}
	b.Salt = impl.Field{0: negativeZero, 1: 1, 7: negativeZero, 8: 0, 9: 0}
	mixed, code = impl.MixBrines(a, b, negativeZero)
	wantSalt(t, "-0 with the share -0", mixed, code, a, a.Salt)
	mixed, code = impl.MixBrines(a, b, 0)
	wantSalt(t, "-0 with the share 0", mixed, code, a, impl.Field{2: negativeZero, 9: least})
	mixed, code = impl.MixBrines(a, b, 0.5)
	wantSalt(t, "-0 with a half, and a half of the least number", mixed, code, a, impl.Field{1: 0.5, 2: negativeZero, 9: least})
	mixed, code = impl.MixBrines(a, b, justAbove(0.5))
	wantSalt(t, "a little more than a half of the least number", mixed, code, a, impl.Field{1: justAbove(0.5), 2: negativeZero})
	a.Salt, b.Salt = impl.Field{0: impl.MaxSize, 1: least, 8: 0, 9: impl.MaxSize}, impl.Field{0: impl.MaxSize, 1: impl.MaxSize, 8: impl.MaxSize, 9: least}
	mixed, code = impl.MixBrines(a, b, 1)
	wantSalt(t, "the least and the greatest ones", mixed, code, a, impl.Field{0: impl.MaxSize, 1: impl.MaxSize, 8: impl.MaxSize})
}

func TestMixBrinesOfMany(t *testing.T) {
	list := randomBrines(300)
	for i, a := range list {
		b := list[(i+1)%len(list)]
		other := a
		other.Salt, other.Room = a.Spring, b.Room
		for _, share := range []float32{0, negativeZero, 1, 0.5, 0.1, least, justBelow(1)} {
			mixed, code := impl.MixBrines(a, other, share)
			wantBrine(t, "two brines of one size", mixed, code, mixedOf(a, other, share), impl.OK)
			if a.Ground.Wide == b.Ground.Wide && a.Ground.High == b.Ground.High {
				continue
			}
			mixed, code = impl.MixBrines(a, b, share)
			wantBrine(t, "two brines of different sizes", mixed, code, impl.Brine{}, impl.ErrState)
		}
	}
	for _, extents := range [][2]int64{{2, 3}, {3, 2}, {8, 8}} {
		b := impl.Brine{Ground: even(t, extents[0], extents[1], 1, 0), Room: 10}
		for _, share := range []float32{0, 0.5, 1} {
			mixed, code := impl.MixBrines(brineExample(t), b, share)
			wantBrine(t, fmt.Sprint("with one of the size ", extents), mixed, code, impl.Brine{}, impl.ErrState)
			mixed, code = impl.MixBrines(b, brineExample(t), share)
			wantBrine(t, fmt.Sprint("one of the size ", extents), mixed, code, impl.Brine{}, impl.ErrState)
		}
	}
}

func TestReverseBrine(t *testing.T) {
	b := brineExample(t)
	b.Spring[8] = 3
	b.Ground.Heads = impl.Field{0: negativeZero, 1: 2, 2: negativeZero, 8: -impl.MaxSize, 9: least}
	b.Ground.Gain = impl.Field{0: 7, 1: negativeZero, 7: negativeZero, 8: -least, 9: impl.MaxSize}
	want := b
	want.Ground.Heads = impl.Field{1: -2, 2: negativeZero, 8: impl.MaxSize, 9: -least}
	want.Ground.Gain = impl.Field{0: -7, 7: negativeZero, 8: least, 9: -impl.MaxSize}
	back, code := impl.ReverseBrine(b)
	wantBrine(t, "heads and gains", back, code, want, impl.OK)
	for _, b := range randomBrines(300) {
		back, code := impl.ReverseBrine(b)
		wantBrine(t, "some brine", back, code, reversedOf(b), impl.OK)
		again, code := impl.ReverseBrine(back)
		wantBrine(t, "some brine, twice", again, code, reversedOf(back), impl.OK)
	}
}
