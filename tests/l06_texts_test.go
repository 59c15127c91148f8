package tests

import (
	"math"
	"math/rand"
	"strings"
	"testing"

	"loop.example/g01288/impl"
)

func TestWaveText(t *testing.T) {
	for _, c := range []struct {
		wave impl.Wave
		text string
	}{
		{waveOf(0, 1), "00000000 3f800000"},
		{waveOf(1, 0), "3f800000 00000000"},
		{waveOf(negativeZero, 0), "80000000 00000000"},
		{waveOf(0, negativeZero), "00000000 80000000"},
		{waveOf(-5, least), "c0a00000 00000001"},
		{waveOf(impl.MaxSize, -impl.MaxSize), "49800000 c9800000"},
		// Waves that are not valid have texts, too.
		{waveOf(infinite, -infinite), "7f800000 ff800000"},
		{waveOf(notANumber, 2), "7fc00000 40000000"},
		{waveOf(2, notANumber), "40000000 7fc00000"},
		{waveOf(2000000, math.MaxFloat32), "49f42400 7f7fffff"},
	} {
		if text := impl.WaveText(c.wave); text != c.text {
			t.Errorf("WaveText %v: %q, want %q", c.wave, text, c.text)
		}
		w, code := impl.ReadWave(c.text)
		wantWaveResult(t, "ReadWave "+c.text, w, code, c.wave, impl.OK)
	}
	for _, bits := range []uint32{0x7f800001, 0xffc00001, 0xffffffff} {
		a := math.Float32frombits(bits)
		if text := impl.WaveText(waveOf(a, a)); text != "7fc00000 7fc00000" {
			t.Errorf("WaveText of parts with the bits %08x: %q", bits, text)
		}
	}
}

func TestNoTextOfWave(t *testing.T) {
	const text = "00abcdef c0a00000"
	replaced := func(old, new string) string { return strings.Replace(text, old, new, 1) }
	for name, other := range map[string]string{
		"nothing":                "",
		"a blank":                " ",
		"a word":                 "x",
		"one part":               "00abcdef",
		"one part and a blank":   "00abcdef ",
		"a blank and one part":   " c0a00000",
		"three parts":            text + " 00000000",
		"a blank ahead":          " " + text,
		"a blank behind":         text + " ",
		"a newline behind":       text + "\n",
		"a newline ahead":        "\n" + text,
		"two blanks":             replaced(" ", "  "),
		"no blank":               replaced(" ", ""),
		"a tab":                  replaced(" ", "\t"),
		"a newline between":      replaced(" ", "\n"),
		"a comma":                replaced(" ", ","),
		"capital digits":         replaced("abcdef", "ABCDEF"),
		"capital digits behind":  replaced("c0a", "c0A"),
		"a digit too few":        replaced("00ab", "0ab"),
		"a digit too many":       replaced("00ab", "000ab"),
		"a digit too few behind": replaced("a00000", "a0000"),
		"a digit too many after": text + "0",
		"a sign":                 replaced("00ab", "+0ab"),
		"a prefix":               replaced("00ab", "0xab"),
		"no digit":               replaced("f", "g"),
		"no digit behind":        replaced("c0a", "c0g"),
		"another NaN":            replaced("00abcdef", "7fc00001"),
		"another NaN behind":     replaced("c0a00000", "ffc00000"),
		"words":                  "1 2",
		"numbers in decimal":     "1.0 -5.0",
		"a complex number":       "(0+1i)",
		"bytes that are none":    "\xff\xfe" + text,
		"a zero byte behind":     text + "\x00",
		"many blanks":            strings.Repeat(" ", 1000000),
		"many digits":            strings.Repeat("0", 1000000),
		"many digits behind":     "00000000 " + strings.Repeat("0", 999991),
		"many parts":             strings.Repeat("00000000 ", 111111),
	} {
		if other == text {
			t.Fatalf("%s: the text is not another one", name)
		}
		w, code := impl.ReadWave(other)
		wantWaveResult(t, "ReadWave of "+name, w, code, 0, impl.ErrSyntax)
	}
}

// Promise 14: waves are read from their texts.
func TestPromise14WavesAreRead(t *testing.T) {
	r := rand.New(rand.NewSource(90))
	waves := oddWaves()
	for range 20000 {
		waves = append(waves, waveOf(math.Float32frombits(r.Uint32()), math.Float32frombits(r.Uint32())), randomWave(r))
	}
	for _, w := range waves {
		text := impl.WaveText(w)
		back, code := impl.ReadWave(text)
		wantWaveResult(t, "a wave read from its text "+text, back, code, w, impl.OK)
		if !impl.SameWave(back, w) {
			t.Errorf("the wave read from %q is not the same", text)
		}
	}
	// What is read has the text that it has been read from.
	read := 0
	for range 50000 {
		text := []byte(impl.WaveText(waves[r.Intn(len(waves))]))
		text[r.Intn(len(text))] = "0123456789abcdefg AF-\n"[r.Intn(22)]
		w, code := impl.ReadWave(string(text))
		if code == impl.OK && impl.WaveText(w) != string(text) || code != impl.OK && (code != impl.ErrSyntax || w != 0) {
			t.Errorf("ReadWave %q: %v, code %d", text, w, code)
		}
		if code == impl.OK {
			read++
		}
	}
	if read < 10000 {
		t.Errorf("only %d texts are those of waves", read)
	}
}
