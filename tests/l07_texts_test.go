package tests

import (
	"math/rand"
	"strings"
	"testing"

	"loop.example/g01288/impl"
)

const somePermitsText = "2 9 4\n0 0 0\n7 63 400\n2 9 4\n1 10 100\n"

var somePermits = permitsOf(2, 9, 4, 0, 0, 0, 7, 63, 400, 2, 9, 4, 1, 10, 100)

func wantPermitsText(t *testing.T, name string, list []impl.Permit, want string) {
	t.Helper()
	if text := impl.PermitsText(list); text != want {
		t.Errorf("PermitsText of %s: %q, want %q", name, text, want)
	}
}

func TestPermitsText(t *testing.T) {
	wantPermitsText(t, "some permits", somePermits, somePermitsText)
	wantPermitsText(t, "no permits", nil, "")
	wantPermitsText(t, "no permits", []impl.Permit{}, "")
	wantPermitsText(t, "MaxPermits", make([]impl.Permit, impl.MaxPermits), strings.Repeat("0 0 0\n", impl.MaxPermits))
	for _, broken := range badLists() {
		wantPermitsText(t, broken.name, broken.list, "")
	}
	// There is no ground, so that each number of a field may be one of a cell.
	for _, cell := range []int8{-128, -1, 64, 127} {
		for _, list := range among(impl.Permit{Cell: cell}) {
			wantPermitsText(t, "a cell that is none", list, "")
		}
	}
	wantPermitsText(t, "cells beside each other", permitsOf(1, 3, 5, 1, 4, 5, 1, 62, 5), "1 3 5\n1 4 5\n1 62 5\n")
}

func TestReadPermits(t *testing.T) {
	for text, want := range map[string][]impl.Permit{
		"":                              nil,
		"2 9 4\n":                       permitsOf(2, 9, 4),
		"0 0 0\n":                       permitsOf(0, 0, 0),
		"7 63 400\n":                    permitsOf(7, 63, 400),
		somePermitsText:                 somePermits,
		strings.Repeat("7 63 400\n", 6): permitsOf(7, 63, 400, 7, 63, 400, 7, 63, 400, 7, 63, 400, 7, 63, 400, 7, 63, 400),
	} {
		list, code := impl.ReadPermits(text)
		wantPermits(t, "ReadPermits "+text, list, code, want, impl.OK)
	}
}

func TestNoTextOfPermits(t *testing.T) {
	const line = "2 10 40\n"
	replaced := func(old, new string) string { return strings.Replace(line, old, new, 1) }
	for name, text := range map[string]string{
		"a word":                   "x",
		"a newline":                "\n",
		"a blank":                  " ",
		"a blank and a newline":    " \n",
		"no last newline":          "2 10 40",
		"no last newline of two":   line + "2 10 40",
		"a newline too many":       line + "\n",
		"a newline ahead":          "\n" + line,
		"a newline between":        line + "\n" + line,
		"a blank ahead":            " " + line,
		"a blank behind":           replaced("\n", " \n"),
		"two blanks":               replaced(" ", "  "),
		"two blanks ahead of rate": replaced(" 4", "  4"),
		"a tab":                    replaced(" ", "\t"),
		"a carriage return":        replaced("\n", "\r\n"),
		"a comma":                  replaced(" ", ","),
		"no blank":                 replaced(" ", ""),
		"no blanks":                "21040\n",
		"a number missing":         "2 10\n",
		"an empty number":          "2 10 \n",
		"an empty owner":           " 10 40\n",
		"an empty cell":            "2  40\n",
		"a number too many":        replaced("\n", " 0\n"),
		"a leading zero of owner":  "02 10 40\n",
		"a leading zero of cell":   "2 010 40\n",
		"a leading zero of rate":   "2 10 040\n",
		"two zeros":                "00 10 40\n",
		"a sign of an owner":       "+2 10 40\n",
		"a sign of a cell":         "2 +10 40\n",
		"a sign of a rate":         "2 10 +40\n",
		"-0 as an owner":           "-0 10 40\n",
		"-0 as a cell":             "2 -0 40\n",
		"-0 as a rate":             "2 10 -0\n",
		"the owner 8":              "8 10 40\n",
		"the owner -1":             "-1 10 40\n",
		"the owner 256":            "256 10 40\n",
		"the cell 64":              "2 64 40\n",
		"the cell -1":              "2 -1 40\n",
		"the cell 266":             "2 266 40\n",
		"the rate 401":             "2 10 401\n",
		"the rate -1":              "2 10 -1\n",
		"the rate 65536":           "2 10 65536\n",
		"a rate that wraps around": "2 10 18446744073709551656\n",
		"a number with a point":    "2 10 40.0\n",
		"a number with a letter":   "2 10 4e1\n",
		"an underscore":            "2 1_0 40\n",
		"a number in hexadecimal":  "2 0xa 40\n",
		"a letter":                 "a 10 40\n",
		"other digits":             "2 10 ٤\n",
		"bytes that are none":      "\xff" + line,
		"a zero byte":              replaced("\n", "\x00\n"),
		"one line too many":        strings.Repeat(line, impl.MaxPermits+1),
		"one empty line too many":  strings.Repeat(line, impl.MaxPermits) + "\n",
		"one wrong line":           line + "8 10 40\n" + line,
		"many lines":               strings.Repeat(line, 100000),
		"many newlines":            strings.Repeat("\n", 1000000),
		"many blanks":              strings.Repeat(" ", 1000000),
		"many digits":              strings.Repeat("0", 999990) + line,
	} {
		list, code := impl.ReadPermits(text)
		wantPermits(t, "ReadPermits of "+name, list, code, nil, impl.ErrSyntax)
	}
}

// The guarantee that permits are read from their texts.
func TestPermitsAreRead(t *testing.T) {
	r := rand.New(rand.NewSource(118))
	g := even(t, 8, 8, 1, 0)
	for range 2000 {
		list := randomPermits(r, g, r.Intn(impl.MaxPermits+1))
		text := impl.PermitsText(list)
		back, code := impl.ReadPermits(text)
		wantPermits(t, "permits read from "+text, back, code, list, impl.OK)
	}
	// What is read has the text that it has been read from.
	read := 0
	for range 20000 {
		text := []byte(impl.PermitsText(randomPermits(r, g, 1+r.Intn(impl.MaxPermits))))
		text[r.Intn(len(text))] = "0123456789 +-\n"[r.Intn(14)]
		list, code := impl.ReadPermits(string(text))
		if code == impl.OK {
			wantPermitsText(t, "what has been read", list, string(text))
			read++
		} else {
			wantPermits(t, "ReadPermits of "+string(text), list, code, nil, impl.ErrSyntax)
		}
	}
	if read < 5000 {
		t.Errorf("only %d texts are those of permits", read)
	}
}
