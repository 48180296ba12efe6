package tests

import (
	"math"
	"strings"
	"testing"

	"loop.example/neumes/impl"
)

// toneTexts are the texts of all tones, by step, the Soft ones last.
const toneTexts = "G0 A0 B0 C0 D0 E0 F0 G1 A1 B1 C1 D1 E1 F1 G2 A2 B2 C2 D2 E2 F2 b0 b1 b2"

// allTones are all tones of the gamut, in the order of toneTexts, made without the program's own functions.
func allTones() []impl.Tone {
	tones := []impl.Tone{}
	for step := range 21 {
		tones = append(tones, impl.Tone{Step: step})
	}
	for _, step := range []int{2, 9, 16} {
		tones = append(tones, impl.Tone{Step: step, Soft: true})
	}
	return tones
}

// badTones are tones out of the gamut, and Soft ones whose letter is not B.
func badTones() []impl.Tone {
	tones := []impl.Tone{}
	for _, step := range []int{-1, -2, -5, -7, 21, 22, 23, 28, 30, math.MaxInt, math.MinInt, math.MinInt + 2, math.MaxInt - 1, 1 << 32, 1<<32 + 2} {
		tones = append(tones, impl.Tone{Step: step}, impl.Tone{Step: step, Soft: true})
	}
	for step := range 21 {
		if step != 2 && step != 9 && step != 16 {
			tones = append(tones, impl.Tone{Step: step, Soft: true})
		}
	}
	return tones
}

// toneOf finds a tone by its text in toneTexts.
func toneOf(t *testing.T, text string) impl.Tone {
	t.Helper()
	for i, s := range strings.Fields(toneTexts) {
		if s == text {
			return allTones()[i]
		}
	}
	t.Fatalf("%q is no tone", text)
	return impl.Tone{}
}

func tonesOf(t *testing.T, texts string) []impl.Tone {
	t.Helper()
	tones := []impl.Tone{}
	for _, s := range strings.Fields(texts) {
		tones = append(tones, toneOf(t, s))
	}
	return tones
}

func isTone(x impl.Tone) bool {
	for _, t := range allTones() {
		if t == x {
			return true
		}
	}
	return false
}

// octaveUp is the same tone one octave higher, and whether there is one.
func octaveUp(x impl.Tone) (impl.Tone, bool) {
	up := impl.Tone{Step: x.Step + 7, Soft: x.Soft}
	return up, isTone(up)
}
