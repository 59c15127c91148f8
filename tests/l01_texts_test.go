package tests

import (
	"slices"
	"strings"
	"testing"

	"loop.example/g01288/impl"
)

const exampleText = "3 2\n" +
	"fixed 40000000 00000000 40a00000\n" +
	"free 40000000 00000000 40c00000\n" +
	"free 40000000 00000000 40a00000\n" +
	"free 40000000 00000000 40a00000\n" +
	"free 40000000 00000000 40a00000\n" +
	"free 40000000 00000000 40a00000\n"

func TestGroundText(t *testing.T) {
	if text := impl.GroundText(example(t)); text != exampleText {
		t.Errorf("text of the example: %q", text)
	}
	g, code := impl.ReadGround(exampleText)
	wantGround(t, "ReadGround", g, code, example(t), impl.OK)
	g = example(t)
	g.Conduct[8], g.Gain[9], g.Heads[10] = negativeZero, negativeZero, negativeZero
	text := impl.GroundText(g)
	if !strings.Contains(text, "free 80000000 00000000 40a00000\nfree 40000000 80000000 40a00000\nfree 40000000 00000000 80000000\n") {
		t.Errorf("text of -0: %q", text)
	}
	got, code := impl.ReadGround(text)
	wantGround(t, "-0 is read", got, code, g, impl.OK)
}

func TestNoGroundText(t *testing.T) {
	for _, broken := range brokenGrounds(t) {
		if text := impl.GroundText(broken.ground); text != "" {
			t.Errorf("text with %s: %q", broken.name, text)
		}
	}
	for _, cell := range []int64{3, 7, 11, 16, 63} {
		for _, change := range []func(g *impl.Ground){
			func(g *impl.Ground) { g.Conduct[cell] = negativeZero },
			func(g *impl.Ground) { g.Gain[cell] = negativeZero },
			func(g *impl.Ground) { g.Heads[cell] = negativeZero },
		} {
			g := example(t)
			change(&g)
			if text := impl.GroundText(g); !impl.ValidGround(g) || text != "" {
				t.Errorf("text with -0 at the number %d: %q", cell, text)
			}
		}
	}
}

func TestGroundsAreRead(t *testing.T) {
	read := 0
	for _, g := range randomGrounds(300) {
		text := impl.GroundText(g)
		if text != "" {
			got, code := impl.ReadGround(text)
			wantGround(t, "ground read from its text", got, code, g, impl.OK)
			read++
		}
		for i := range g.Heads {
			if !slices.Contains(cellsOf(g), int64(i)) {
				g.Conduct[i], g.Gain[i], g.Heads[i] = 0, 0, 0
			}
		}
		got, code := impl.ReadGround(impl.GroundText(g))
		wantGround(t, "ground without -0 beside its cells", got, code, g, impl.OK)
	}
	if read == 0 || read == 300 {
		t.Errorf("%d of the grounds have a text", read)
	}
}

func TestNoTextOfGround(t *testing.T) {
	replaced := func(old, new string) string { return strings.Replace(exampleText, old, new, 1) }
	for name, text := range map[string]string{
		"nothing":                             "",
		"a newline":                           "\n",
		"the first line alone":                "3 2\n",
		"no cells, no newline":                "3 2",
		"a cell too few":                      exampleText[:len(exampleText)-len("free 40000000 00000000 40a00000\n")],
		"a cell too many":                     exampleText + "free 40000000 00000000 40a00000\n",
		"no last newline":                     exampleText[:len(exampleText)-1],
		"a newline too many":                  exampleText + "\n",
		"a newline ahead":                     "\n" + exampleText,
		"a blank ahead":                       " " + exampleText,
		"two blanks":                          replaced("3 2", "3  2"),
		"a blank behind":                      replaced("3 2", "3 2 "),
		"a third extent":                      replaced("3 2", "3 2 1"),
		"one extent":                          replaced("3 2", "6"),
		"leading zero":                        replaced("3 2", "03 2"),
		"a sign":                              replaced("3 2", "+3 2"),
		"extents changed":                     replaced("3 2", "2 2"),
		"too small":                           replaced("3 2", "1 6"),
		"too great":                           replaced("3 2", "9 2"),
		"much too great":                      replaced("3 2", "259 2"),
		"less than 0":                         replaced("3 2", "-3 -2"),
		"not decimal":                         replaced("3 2", "0x3 2"),
		"two blanks in a cell":                replaced("free ", "free  "),
		"a tab":                               replaced("free ", "free\t"),
		"another word":                        replaced("free", "loose"),
		"a capital word":                      replaced("free", "Free"),
		"fixed in capitals":                   replaced("fixed", "FIXED"),
		"none fixed":                          replaced("fixed", "free"),
		"a word missing":                      replaced(" 40c00000", ""),
		"a word too many":                     replaced(" 40c00000", " 40c00000 00000000"),
		"a blank behind a cell":               replaced("40c00000\n", "40c00000 \n"),
		"a carriage return":                   replaced("40c00000\n", "40c00000\r\n"),
		"capital digits":                      replaced("40c00000", "40C00000"),
		"a digit too few":                     replaced("40c00000", "40c0000"),
		"a digit too many":                    replaced("40c00000", "040c00000"),
		"a head that is NaN":                  replaced("40c00000", "7fc00000"),
		"a head that is infinite":             replaced("40c00000", "7f800000"),
		"a head that is not small enough":     replaced("40c00000", "49800001"),
		"a conductance less than 0":           replaced("free 40000000", "free c0000000"),
		"a conductance that is not plain":     replaced("free 40000000", "free 49800001"),
		"a conductance that is no number":     replaced("free 40000000", "free 4000000x"),
		"a gain that is not plain":            replaced("free 40000000 00000000", "free 40000000 ff800000"),
		"a gain that is no number":            replaced("free 40000000 00000000", "free 40000000 zero0000"),
		"something behind":                    exampleText + "x",
		"another text behind":                 exampleText + exampleText,
		"bytes that are none of a text":       "\xff\xfe" + exampleText,
		"many newlines":                       strings.Repeat("\n", 1000000),
		"many newlines behind":                exampleText + strings.Repeat("\n", 1000000),
		"a long line":                         "3 2" + strings.Repeat(" ", 1000000),
		"no newline between cells":            replaced("\nfree", " free"),
		"the first line without a newline":    replaced("3 2\n", "3 2 "),
		"the first line twice":                "3 2\n" + exampleText,
		"a zero byte":                         exampleText + "\x00",
		"a line without words between others": replaced("\nfree", "\n\nfree"),
	} {
		if text == exampleText {
			t.Fatalf("%s: the text is that of the example", name)
		}
		g, code := impl.ReadGround(text)
		wantGround(t, name, g, code, impl.Ground{}, impl.ErrSyntax)
	}
}
