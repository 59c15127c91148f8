package tests

import (
	"math/rand"
	"slices"
	"strings"
	"testing"

	"loop.example/g01288/impl"
)

const someWellsText = "0 0 40a00000\n-100 100 c0a00000\n7 -12 80000000\n"

var someWells = []impl.Well{{Rate: 5}, {X: -100, Y: 100, Rate: -5}, {X: 7, Y: -12, Rate: negativeZero}}

func TestWellsText(t *testing.T) {
	if text := impl.WellsText(someWells); text != someWellsText {
		t.Errorf("WellsText: %q", text)
	}
	for _, none := range [][]impl.Well{nil, {}} {
		if text := impl.WellsText(none); text != "" {
			t.Errorf("WellsText without wells: %q", text)
		}
	}
	if text := impl.WellsText(make([]impl.Well, 12)); text != strings.Repeat("0 0 00000000\n", 12) {
		t.Errorf("WellsText of twelve wells: %q", text)
	}
	for _, count := range []int{13, 14, 1000000} {
		if text := impl.WellsText(make([]impl.Well, count)); text != "" {
			t.Errorf("WellsText of %d wells: %q", count, text)
		}
	}
	for _, w := range wrongWells() {
		for _, wells := range [][]impl.Well{{w}, {{}, w}, {w, {}}} {
			if text := impl.WellsText(wells); text != "" {
				t.Errorf("WellsText of %v: %q", wells, text)
			}
		}
	}
}

func TestReadWells(t *testing.T) {
	wells, code := impl.ReadWells(someWellsText)
	wantWells(t, "ReadWells", wells, code, someWells, impl.OK)
	wells, code = impl.ReadWells("")
	wantWells(t, "ReadWells of the empty text", wells, code, nil, impl.OK)
	wells, code = impl.ReadWells(strings.Repeat("0 0 00000000\n", 12))
	wantWells(t, "ReadWells of twelve wells", wells, code, make([]impl.Well, 12), impl.OK)
	wells, code = impl.ReadWells("100 -100 49800000\n-100 100 c9800000\n1 1 00000001\n")
	wantWells(t, "ReadWells at edges", wells, code, []impl.Well{{X: 100, Y: -100, Rate: impl.MaxSize}, {X: -100, Y: 100, Rate: -impl.MaxSize}, {X: 1, Y: 1, Rate: least}}, impl.OK)
	r := rand.New(rand.NewSource(17))
	for i := range 500 {
		want := randomWells(r, i%(impl.MaxWells+1))
		wells, code = impl.ReadWells(impl.WellsText(want))
		wantWells(t, "wells read from their text", wells, code, want, impl.OK)
	}
}

func TestNoTextOfWells(t *testing.T) {
	const line = "7 -12 40a00000\n"
	replaced := func(old, new string) string { return strings.Replace(line, old, new, 1) }
	for name, text := range map[string]string{
		"a word":                       "x",
		"a newline":                    "\n",
		"no last newline":              line[:len(line)-1],
		"no last newline of two":       line + line[:len(line)-1],
		"a newline too many":           line + "\n",
		"a newline ahead":              "\n" + line,
		"a newline between":            line + "\n" + line,
		"a blank ahead":                " " + line,
		"a blank behind":               replaced("\n", " \n"),
		"two blanks":                   replaced(" ", "  "),
		"two blanks ahead of the rate": replaced(" 4", "  4"),
		"a tab":                        replaced(" ", "\t"),
		"a carriage return":            replaced("\n", "\r\n"),
		"a word missing":               replaced(" -12", ""),
		"a rate missing":               replaced(" 40a00000", ""),
		"an empty rate":                replaced("40a00000", ""),
		"an empty place":               replaced("7", ""),
		"a word too many":              replaced("\n", " 0\n"),
		"a leading zero":               replaced("7", "07"),
		"a sign":                       replaced("7", "+7"),
		"a leading zero of Y":          replaced("-12", "-012"),
		"a sign of Y":                  replaced("-12", "+12"),
		"-0":                           replaced("7", "-0"),
		"-0 of Y":                      replaced("-12", "-0"),
		"a place too far east":         replaced("7", "101"),
		"a place too far west":         replaced("7", "-101"),
		"a place too far south":        replaced("-12", "101"),
		"a place too far north":        replaced("-12", "-101"),
		"a place much too far":         replaced("7", "263"),
		"a place that is too great":    replaced("7", "99999999999999999999"),
		"not decimal":                  replaced("7", "0x7"),
		"a place with a point":         replaced("7", "7.0"),
		"a place with underscores":     replaced("-12", "-1_2"),
		"no number":                    replaced("7", "seven"),
		"no number of Y":               replaced("-12", "y"),
		"capital digits":               replaced("a", "A"),
		"a digit too few":              replaced("00000", "0000"),
		"a digit too many":             replaced("40a", "040a"),
		"a rate that is not plain":     replaced("40a00000", "49800001"),
		"a rate that is infinite":      replaced("40a00000", "ff800000"),
		"a rate that is NaN":           replaced("40a00000", "7fc00000"),
		"a rate that is no number":     replaced("40a00000", "40a0000x"),
		"a rate in decimal":            replaced("40a00000", "5"),
		"thirteen wells":               strings.Repeat(line, 13),
		"many wells":                   strings.Repeat(line, 60000),
		"many newlines":                strings.Repeat("\n", 1000000),
		"a long line":                  strings.Repeat(" ", 1000000),
		"a long number":                strings.Repeat("1", 1000000),
		"a long line behind":           line + strings.Repeat(" ", 1000000) + "\n",
		"something behind":             line + "x",
		"a zero byte behind":           line + "\x00",
		"a second well that is none":   line + replaced("7", "101"),
		"bytes that are none":          "\xff\xfe" + line,
		"no newline between":           line[:len(line)-1] + " " + line,
	} {
		if text == line {
			t.Fatalf("%s: the text is not another one", name)
		}
		wells, code := impl.ReadWells(text)
		wantWells(t, "ReadWells of "+name, wells, code, nil, impl.ErrSyntax)
	}
}

func TestWellsTextKeepsWells(t *testing.T) {
	wells := slices.Clone(someWells)
	impl.WellsText(wells)
	if !slices.EqualFunc(wells, someWells, sameWell) {
		t.Errorf("WellsText has made the wells %v", wells)
	}
}
