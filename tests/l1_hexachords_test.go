package tests

import (
	"math"
	"slices"
	"strings"
	"testing"

	"loop.example/neumes/impl"
)

// hexTexts are the tones of all hexachords, by the steps at which they begin.
var hexTexts = map[int]string{
	0:  "G0 A0 B0 C0 D0 E0",
	3:  "C0 D0 E0 F0 G1 A1",
	6:  "F0 G1 A1 b1 C1 D1",
	7:  "G1 A1 B1 C1 D1 E1",
	10: "C1 D1 E1 F1 G2 A2",
	13: "F1 G2 A2 b2 C2 D2",
	14: "G2 A2 B2 C2 D2 E2",
}

var hexKinds = map[int]string{0: "hard", 3: "natural", 6: "soft", 7: "hard", 10: "natural", 13: "soft", 14: "hard"}

// noHexSteps are steps at which no hexachord begins: some have the letters G, C and F, but no room above or are below the gamut.
func noHexSteps() []int {
	list := []int{17, 20, 21, 24, 27, 28, -1, -4, -7, -8, math.MaxInt, math.MinInt, math.MinInt + 6, 1 << 32, 1<<32 + 3, -1 << 32}
	for step := range 21 {
		if hexTexts[step] == "" {
			list = append(list, step)
		}
	}
	return list
}

var noSyllables = []int{-1, -2, -6, 6, 7, 12, math.MaxInt, math.MinInt, 1 << 32, -1 << 32}

func TestHexValidAndKind(t *testing.T) {
	for step, kind := range hexKinds {
		if !impl.HexValid(step) || impl.HexKind(step) != kind {
			t.Errorf("of step %d: HexValid is %v, HexKind is %q", step, impl.HexValid(step), impl.HexKind(step))
		}
	}
	for _, step := range noHexSteps() {
		if impl.HexValid(step) || impl.HexKind(step) != "" {
			t.Errorf("of step %d: HexValid is %v, HexKind is %q", step, impl.HexValid(step), impl.HexKind(step))
		}
	}
}

func TestP7HexTone(t *testing.T) {
	for step, texts := range hexTexts {
		for k, want := range tonesOf(t, texts) {
			got, ok := impl.HexTone(step, k)
			if !ok || got != want {
				t.Errorf("HexTone(%d, %d) = %v, %v; want %v", step, k, got, ok, want)
			}
			if back := impl.HexSyllable(step, got); back != k {
				t.Errorf("HexSyllable(%d, %v) = %d; want %d", step, got, back, k)
			}
		}
	}
}

func TestP7NextSyllable(t *testing.T) {
	for step := range hexTexts {
		for k := range 5 {
			a, _ := impl.HexTone(step, k)
			b, _ := impl.HexTone(step, k+1)
			want := 2
			if k == 2 {
				want = 1
			}
			if d, ok := impl.ToneSemis(a, b); !ok || d != want {
				t.Errorf("of hexachord %d, from syllable %d to the next one are %d semitones; want %d", step, k, d, want)
			}
		}
	}
}

func checkNoHexTone(t *testing.T, step, syllable int) {
	if got, ok := impl.HexTone(step, syllable); ok || got != (impl.Tone{}) {
		t.Errorf("HexTone(%d, %d) = %v, %v", step, syllable, got, ok)
	}
}

func TestP7HexToneInvalid(t *testing.T) {
	for step := range hexTexts {
		for _, k := range noSyllables {
			checkNoHexTone(t, step, k)
		}
	}
	for _, step := range noHexSteps() {
		for k := range 6 {
			checkNoHexTone(t, step, k)
		}
		for _, k := range noSyllables {
			checkNoHexTone(t, step, k)
		}
	}
}

func TestP8OctaveOfAHexachord(t *testing.T) {
	for _, step := range []int{0, 3, 6, 7} {
		if impl.HexKind(step) == "" || impl.HexKind(step) != impl.HexKind(step+7) {
			t.Errorf("HexKind(%d) = %q, HexKind(%d) = %q", step, impl.HexKind(step), step+7, impl.HexKind(step+7))
		}
		for k := range 6 {
			low, okLow := impl.HexTone(step, k)
			high, okHigh := impl.HexTone(step+7, k)
			if !okLow || !okHigh || high.Step != low.Step+7 || high.Soft != low.Soft || impl.ToneInterval(low, high) != "8p" {
				t.Errorf("HexTone(%d, %d) = %v, and an octave higher %v", step, k, low, high)
			}
		}
	}
}

func TestP8SoftTones(t *testing.T) {
	for step, kind := range hexKinds {
		for k := range 6 {
			x, ok := impl.HexTone(step, k)
			if want := kind == "soft" && k == 3; !ok || x.Soft != want {
				t.Errorf("HexTone(%d, %d) = %v, %v", step, k, x, ok)
			}
		}
	}
}

func TestHexSyllable(t *testing.T) {
	for step, texts := range hexTexts {
		tones := tonesOf(t, texts)
		for _, x := range allTones() {
			if got, want := impl.HexSyllable(step, x), slices.Index(tones, x); got != want {
				t.Errorf("HexSyllable(%d, %v) = %d; want %d", step, x, got, want)
			}
		}
		for _, x := range badTones() {
			if got := impl.HexSyllable(step, x); got != -1 {
				t.Errorf("HexSyllable(%d, %v) = %d", step, x, got)
			}
		}
	}
	for _, step := range noHexSteps() {
		for _, x := range append(allTones(), badTones()...) {
			if got := impl.HexSyllable(step, x); got != -1 {
				t.Errorf("HexSyllable(%d, %v) = %d", step, x, got)
			}
		}
	}
}

// toneHexachords are, for each tone, the steps of its hexachords and the names that it has in them.
var toneHexachords = map[string]struct {
	steps []int
	names string
}{
	"G0": {[]int{0}, "ut"}, "A0": {[]int{0}, "re"}, "B0": {[]int{0}, "mi"}, "b0": {nil, ""},
	"C0": {[]int{0, 3}, "ut fa"}, "D0": {[]int{0, 3}, "re sol"}, "E0": {[]int{0, 3}, "mi la"},
	"F0": {[]int{3, 6}, "ut fa"}, "G1": {[]int{3, 6, 7}, "ut re sol"}, "A1": {[]int{3, 6, 7}, "re mi la"},
	"b1": {[]int{6}, "fa"}, "B1": {[]int{7}, "mi"},
	"C1": {[]int{6, 7, 10}, "ut fa sol"}, "D1": {[]int{6, 7, 10}, "re sol la"}, "E1": {[]int{7, 10}, "mi la"},
	"F1": {[]int{10, 13}, "ut fa"}, "G2": {[]int{10, 13, 14}, "ut re sol"}, "A2": {[]int{10, 13, 14}, "re mi la"},
	"b2": {[]int{13}, "fa"}, "B2": {[]int{14}, "mi"},
	"C2": {[]int{13, 14}, "fa sol"}, "D2": {[]int{13, 14}, "sol la"}, "E2": {[]int{14}, "la"}, "F2": {nil, ""},
}

func TestP9HexAllAndToneNames(t *testing.T) {
	for i, text := range strings.Fields(toneTexts) {
		x, want := allTones()[i], toneHexachords[text]
		if got := impl.HexAll(x); !slices.Equal(got, want.steps) {
			t.Errorf("HexAll(%s) = %v; want %v", text, got, want.steps)
		}
		if got := impl.ToneNames(x); got != want.names {
			t.Errorf("ToneNames(%s) = %q; want %q", text, got, want.names)
		}
	}
}

func TestP9HexAllAgrees(t *testing.T) {
	for _, x := range allTones() {
		steps := impl.HexAll(x)
		if len(strings.Fields(impl.ToneNames(x))) != len(steps) {
			t.Errorf("ToneNames(%v) = %q, HexAll is %v", x, impl.ToneNames(x), steps)
		}
		kinds := map[string]bool{}
		for step := -7; step <= 27; step++ {
			in := slices.Contains(steps, step)
			if (impl.HexSyllable(step, x) != -1) != in {
				t.Errorf("HexSyllable(%d, %v) = %d, HexAll is %v", step, x, impl.HexSyllable(step, x), steps)
			}
			if in {
				kinds[impl.HexKind(step)] = true
			}
		}
		if len(steps) > 0 && impl.ToneLetter(x) == "B" && len(kinds) != 1 {
			t.Errorf("the hexachords of %v are of the kinds %v", x, kinds)
		}
	}
}

func TestP9HexAllInvalid(t *testing.T) {
	for _, x := range badTones() {
		if got := impl.HexAll(x); len(got) != 0 {
			t.Errorf("HexAll(%v) = %v", x, got)
		}
		if got := impl.ToneNames(x); got != "" {
			t.Errorf("ToneNames(%v) = %q", x, got)
		}
	}
}

func TestP9HexAllIsNewMemory(t *testing.T) {
	x := toneOf(t, "G1")
	first := impl.HexAll(x)
	clear(first[:cap(first)])
	if got := impl.HexAll(x); !slices.Equal(got, []int{3, 6, 7}) {
		t.Errorf("HexAll(%v) = %v after a change of an earlier result", x, got)
	}
	if got, ok := impl.HexTone(3, 4); !ok || got != x {
		t.Errorf("HexTone(3, 4) = %v, %v after a change of an earlier result", got, ok)
	}
}

func TestP10TonesOfAHexachord(t *testing.T) {
	for step := range hexTexts {
		for _, x := range allTones() {
			if impl.HexSyllable(step, x) == -1 {
				continue
			}
			for k := range 6 {
				y, _ := impl.HexTone(step, k)
				d, ok := impl.ToneSemis(x, y)
				if !ok || (d == 0) != (x == y) || d < -9 || d > 9 {
					t.Errorf("of hexachord %d, ToneSemis(%v, %v) = %d, %v", step, x, y, d, ok)
				}
			}
		}
	}
}

func TestP10EndsOfAHexachord(t *testing.T) {
	for step := range hexTexts {
		ut, _ := impl.HexTone(step, 0)
		for k, want := range []int{0, 2, 4, 5, 7, 9} {
			x, _ := impl.HexTone(step, k)
			if d, ok := impl.ToneSemis(ut, x); !ok || d != want {
				t.Errorf("of hexachord %d, from ut to syllable %d are %d semitones; want %d", step, k, d, want)
			}
		}
	}
}
