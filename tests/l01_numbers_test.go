package tests

import (
	"math"
	"strings"
	"testing"

	"loop.example/g01288/impl"
)

func TestCodeNames(t *testing.T) {
	names := []string{"ok", "invalid", "range", "limit", "state", "syntax", "notfound", "budget", "proof"}
	codes := []int64{impl.OK, impl.ErrInvalid, impl.ErrRange, impl.ErrLimit, impl.ErrState, impl.ErrSyntax, impl.ErrNotFound, impl.ErrBudget, impl.ErrProof}
	for i, code := range codes {
		if code != int64(i) || impl.CodeName(code) != names[i] {
			t.Errorf("CodeName %d: %q, want %q", code, impl.CodeName(code), names[i])
		}
	}
	for _, code := range []int64{-1, 9, 256, 1 << 32, math.MaxInt64, math.MinInt64} {
		if impl.CodeName(code) != "" {
			t.Errorf("CodeName %d: %q, want nothing", code, impl.CodeName(code))
		}
	}
}

func TestSameNumber(t *testing.T) {
	for _, a := range oddNumbers {
		for _, b := range oddNumbers {
			want := a == b && math.Signbit(float64(a)) == math.Signbit(float64(b)) || a != a && b != b
			if impl.SameNumber(a, b) != want {
				t.Errorf("SameNumber %v %v: %v", a, b, !want)
			}
		}
	}
	if impl.SameNumber(0, negativeZero) || impl.SameNumber(negativeZero, 0) || !impl.SameNumber(negativeZero, negativeZero) {
		t.Error("0 and -0 are not the same, and -0 and -0 are")
	}
	if !impl.SameNumber(notANumber, math.Float32frombits(0xff800001)) {
		t.Error("all that is not a number is the same")
	}
}

func TestIsPlain(t *testing.T) {
	for _, a := range []float32{0, negativeZero, least, -least, 1, impl.MaxSize, -impl.MaxSize, 1048575.9375} {
		if !impl.IsPlain(a) {
			t.Errorf("%v is plain", a)
		}
	}
	for _, a := range []float32{1048576.125, -1048576.125, 2000000, math.MaxFloat32, infinite, -infinite, notANumber} {
		if impl.IsPlain(a) {
			t.Errorf("%v is not plain", a)
		}
	}
}

func TestJointOf(t *testing.T) {
	wantNumber(t, "joint of 1 and 3", impl.JointOf(1, 3), 1.5)
	wantNumber(t, "joint of 0 and 3", impl.JointOf(0, 3), 0)
	for _, a := range []float32{0, negativeZero, -1, -infinite, notANumber} {
		for _, b := range oddNumbers {
			wantNumber(t, "joint of what is not greater than 0", impl.JointOf(a, b), 0)
			wantNumber(t, "joint with what is not greater than 0", impl.JointOf(b, a), 0)
		}
	}
	wantNumber(t, "joint of infinite numbers", impl.JointOf(infinite, 1), notANumber)
	wantNumber(t, "joint of great numbers", impl.JointOf(math.MaxFloat32, math.MaxFloat32), notANumber)
	wantNumber(t, "joint with an infinite product", impl.JointOf(1e30, 1e30), infinite)
	wantNumber(t, "joint of the least numbers", impl.JointOf(least, least), 0)
	wantNumber(t, "joint whose product is subnormal", impl.JointOf(1e-20, 1e-20), divided(times(2, times(1e-20, 1e-20)), plus(1e-20, 1e-20)))
	for _, a := range oddNumbers {
		for _, b := range oddNumbers {
			wantNumber(t, "joint", impl.JointOf(a, b), jointOf(a, b))
			wantNumber(t, "joint the other way", impl.JointOf(b, a), impl.JointOf(a, b))
		}
	}
}

func TestJointRoundsEachTime(t *testing.T) {
	// Twice one of both, times the other, or times the quotient, would round otherwise.
	rounds := false
	for a := float32(1.1); a < 3; a += 0.0123 {
		for b := float32(1e-22); b < 1e-18; b *= 1.37 {
			wantNumber(t, "joint", impl.JointOf(a*1e-22, b), jointOf(a*1e-22, b))
			rounds = rounds || jointOf(a*1e-22, b) != times(times(2, a*1e-22), divided(b, plus(a*1e-22, b)))
		}
	}
	if !rounds {
		t.Error("the numbers do not tell one order from the other")
	}
}

func TestNumberTexts(t *testing.T) {
	for _, c := range []struct {
		number float32
		text   string
	}{
		{1, "3f800000"}, {0, "00000000"}, {negativeZero, "80000000"}, {least, "00000001"}, {-2, "c0000000"},
		{infinite, "7f800000"}, {-infinite, "ff800000"}, {math.MaxFloat32, "7f7fffff"}, {notANumber, "7fc00000"},
		{-1048576, "c9800000"}, {math.Float32frombits(0x00abcdef), "00abcdef"},
	} {
		if impl.NumberText(c.number) != c.text {
			t.Errorf("NumberText %v: %q, want %q", c.number, impl.NumberText(c.number), c.text)
		}
		number, code := impl.ReadNumber(c.text)
		wantResult(t, "ReadNumber "+c.text, number, code, c.number, impl.OK)
	}
	for _, bits := range []uint32{0x7f800001, 0x7fc00001, 0xffc00000, 0xffffffff, 0xff800001} {
		if text := impl.NumberText(math.Float32frombits(bits)); text != "7fc00000" {
			t.Errorf("NumberText of the bits %08x: %q", bits, text)
		}
	}
	for _, a := range oddNumbers {
		number, code := impl.ReadNumber(impl.NumberText(a))
		wantResult(t, "number read from its text", number, code, a, impl.OK)
	}
}

func TestNoNumberTexts(t *testing.T) {
	for _, text := range []string{
		"", "0", "3f80000", "3f8000000", "03f800000", " 3f800000", "3f800000 ", "3f800000\n", "3F800000", "3f80000g",
		"0x3f8000", "+3f80000", "-3f80000", "3f8_0000", "3f8 0000", "7fc00001", "ffc00000", "7f800001", "ff800001",
		"ffffffff", "\x003f80000", "nan", "NaN     ", "3f80000\xff", "３f80000", strings.Repeat("0", 1000000),
	} {
		number, code := impl.ReadNumber(text)
		wantResult(t, "ReadNumber of no text", number, code, 0, impl.ErrSyntax)
	}
}
