package tests

import (
	"math/rand"
	"slices"
	"strings"
	"testing"

	"loop.example/g01288/impl"
)

const someReadingsText = "1 0\n8 -3\n90 32767\n91 -32768\n100000 16\n"

var someReadings = readingsAt(1, 0, 8, -3, 90, 32767, 91, -32768, 100000, 16)

func TestReadingsText(t *testing.T) {
	if text := impl.ReadingsText(someReadings); text != someReadingsText {
		t.Errorf("ReadingsText: %q", text)
	}
	for _, none := range [][]impl.Reading{nil, {}} {
		if text := impl.ReadingsText(none); text != "" {
			t.Errorf("ReadingsText without readings: %q", text)
		}
	}
	if text := impl.ReadingsText(manyReadings(impl.MaxReadings)); strings.Count(text, "\n") != impl.MaxReadings || !strings.HasSuffix(text, "\n39 0\n40 0\n") {
		t.Errorf("ReadingsText of MaxReadings: %q", text)
	}
	for _, list := range append(wrongReadings(), make([]impl.Reading, 1000000)) {
		if text := impl.ReadingsText(list); text != "" {
			t.Errorf("ReadingsText of readings that are not valid: %q", text)
		}
	}
}

func TestReadReadings(t *testing.T) {
	list, code := impl.ReadReadings(someReadingsText)
	wantReadings(t, "ReadReadings", list, code, someReadings, impl.OK)
	list, code = impl.ReadReadings("")
	wantReadings(t, "ReadReadings of the empty text", list, code, nil, impl.OK)
	list, code = impl.ReadReadings("7 -1\n")
	wantReadings(t, "ReadReadings of one", list, code, readingsAt(7, -1), impl.OK)
	r := rand.New(rand.NewSource(51))
	for i := range 1000 {
		want := randomReadings(r, i%(impl.MaxReadings+1))
		list, code = impl.ReadReadings(impl.ReadingsText(want))
		wantReadings(t, "readings read from their text", list, code, want, impl.OK)
	}
}

func TestNoTextOfReadings(t *testing.T) {
	const line = "7 -12\n"
	replaced := func(old, new string) string { return strings.Replace(line, old, new, 1) }
	many := impl.ReadingsText(manyReadings(impl.MaxReadings))
	for name, text := range map[string]string{
		"a word":                    "x",
		"a newline":                 "\n",
		"a blank":                   " ",
		"a blank and a newline":     " \n",
		"no last newline":           "7 -12",
		"no last newline of two":    line + "8 1",
		"a newline too many":        line + "\n",
		"a newline ahead":           "\n" + line,
		"a newline between":         line + "\n8 1\n",
		"a blank ahead":             " " + line,
		"a blank behind":            replaced("\n", " \n"),
		"two blanks":                replaced(" ", "  "),
		"a tab":                     replaced(" ", "\t"),
		"a carriage return":         replaced("\n", "\r\n"),
		"no blank":                  replaced(" ", ""),
		"a level missing":           "7\n",
		"an empty level":            "7 \n",
		"an empty time":             " -12\n",
		"a word too many":           replaced("\n", " 0\n"),
		"a leading zero":            "07 -12\n",
		"a sign":                    "+7 -12\n",
		"a leading zero of a level": "7 -012\n",
		"a sign of a level":         "7 +12\n",
		"-0":                        "7 -0\n",
		"two signs":                 "7 --12\n",
		"a sign alone":              "7 -\n",
		"the time 0":                "0 -12\n",
		"a time less than 0":        "-7 -12\n",
		"a time that is too late":   "100001 -12\n",
		"a time that is too great":  "99999999999999999999 1\n",
		"a time that wraps around":  "18446744073709551623 -12\n",
		"equal times":               line + line,
		"times in no order":         line + "6 1\n",
		"a level too great":         "7 32768\n",
		"a level too small":         "7 -32769\n",
		"a level much too great":    "1 40000\n",
		"a level that wraps around": "7 65524\n",
		"not decimal":               "0x7 -12\n",
		"a level not decimal":       "7 0x12\n",
		"a level with a point":      "7 1.0\n",
		"a level with underscores":  "7 1_2\n",
		"no number":                 "seven -12\n",
		"a level that is none":      "7 y\n",
		"forty-one readings":        many + "41 0\n",
		"forty-one lines":           many + "\n",
		"many lines":                strings.Repeat(line, 100000),
		"many newlines":             strings.Repeat("\n", 1000000),
		"a long line":               strings.Repeat(" ", 1000000),
		"a long number":             strings.Repeat("1", 1000000),
		"a long line behind":        line + strings.Repeat(" ", 1000000) + "\n",
		"something behind":          line + "x",
		"a zero byte behind":        line + "\x00",
		"bytes that are none":       "\xff\xfe" + line,
		"other digits":              "\u0667 1\n",
	} {
		if text == line {
			t.Fatalf("%s: the text is not another one", name)
		}
		list, code := impl.ReadReadings(text)
		wantReadings(t, "ReadReadings of "+name, list, code, nil, impl.ErrSyntax)
	}
}

func TestReadingsTextKeepsReadings(t *testing.T) {
	list := slices.Clone(someReadings)
	impl.ReadingsText(list)
	if !slices.Equal(list, someReadings) {
		t.Errorf("ReadingsText has made the readings %v", list)
	}
}
