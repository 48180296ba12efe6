package tests

import (
	"math/rand/v2"
	"slices"
	"strings"
	"testing"

	"loop.example/neumes/impl"
)

// singableTones are all tones that are in some hexachord.
func singableTones() []impl.Tone {
	return slices.DeleteFunc(allTones(), func(x impl.Tone) bool { return x == impl.Tone{Step: 2, Soft: true} || x.Step == 20 })
}

func bTones() []impl.Tone {
	return slices.DeleteFunc(allTones(), func(x impl.Tone) bool { return x.Step%7 != 2 })
}

// shortMelodies are all melodies of at most two tones.
func shortMelodies() [][]impl.Tone {
	list := [][]impl.Tone{{}}
	for _, a := range allTones() {
		list = append(list, []impl.Tone{a})
		for _, b := range allTones() {
			list = append(list, []impl.Tone{a, b})
		}
	}
	return list
}

// longMelodies are melodies of 3 to 24 tones, always the same ones: of any tones, of tones in hexachords, of B's, and of tones near one another.
func longMelodies() [][]impl.Tone {
	r := rand.New(rand.NewPCG(5, 24))
	list := [][]impl.Tone{}
	for n := 3; n <= 24; n++ {
		for range 6 {
			list = append(list, drawn(r, allTones(), n), drawn(r, singableTones(), n), drawn(r, bTones(), n))
			middle := 3 + r.IntN(14)
			near := slices.DeleteFunc(singableTones(), func(x impl.Tone) bool { return x.Step < middle-3 || x.Step > middle+4 })
			list = append(list, drawn(r, near, n), drawn(r, near, n))
		}
	}
	return list
}

func drawn(r *rand.Rand, from []impl.Tone, n int) []impl.Tone {
	m := []impl.Tone{}
	for range n {
		m = append(m, from[r.IntN(len(from))])
	}
	return m
}

func someMelodies() [][]impl.Tone {
	return append(shortMelodies(), longMelodies()...)
}

// noMelodies are lists with an invalid tone at each place, and lists that are too long.
func noMelodies(t *testing.T) [][]impl.Tone {
	list := [][]impl.Tone{}
	for _, bad := range badTones() {
		list = append(list, []impl.Tone{bad}, []impl.Tone{bad, bad})
		for i := range 3 {
			m := tonesOf(t, "D0 F0 G1")
			m[i] = bad
			list = append(list, m)
		}
	}
	full := repeated(t, "D0", 24)
	for i := range full {
		m := slices.Clone(full)
		m[i] = impl.Tone{Step: 21}
		list = append(list, m)
	}
	for _, n := range []int{25, 26, 48, 49, 1000} {
		list = append(list, repeated(t, "D0", n))
	}
	return append(list, append(slices.Clone(full), impl.Tone{Step: -1}))
}

func repeated(t *testing.T, text string, n int) []impl.Tone {
	t.Helper()
	return slices.Repeat(tonesOf(t, text), n)
}

// textOf is the text of a melody, made without the program's own functions.
func textOf(m []impl.Tone) string {
	words := []string{}
	for _, x := range m {
		words = append(words, strings.Fields(toneTexts)[slices.Index(allTones(), x)])
	}
	return strings.Join(words, " ")
}

// stepsOf and semisOf are the differences of tones that follow each other, made without the program's own functions.
func stepsOf(m []impl.Tone) []int {
	list := []int{}
	for i := 1; i < len(m); i++ {
		list = append(list, m[i].Step-m[i-1].Step)
	}
	return list
}

func semisOf(m []impl.Tone) []int {
	list := []int{}
	for i := 1; i < len(m); i++ {
		list = append(list, heightOf(m[i])-heightOf(m[i-1]))
	}
	return list
}

// backOf is a list in the opposite order.
func backOf[T any](list []T) []T {
	back := slices.Clone(list)
	slices.Reverse(back)
	return back
}

func opposite(list []int) []int {
	out := []int{}
	for _, d := range list {
		out = append(out, -d)
	}
	return out
}

func sumOf(list []int) int {
	sum := 0
	for _, d := range list {
		sum += d
	}
	return sum
}

// spare is a copy of a list with room behind it, in which a result must not be built.
func spare[T any](list []T) []T {
	return append(make([]T, 0, len(list)+30), list...)
}

// noTone is a value that no melody has.
var noTone = impl.Tone{Step: -9, Soft: true}

// checkApart puts another value at each place of a result, its capacity too, and compares the argument with what it was.
func checkApart[T comparable](t *testing.T, what string, result, argument []T, other T) {
	t.Helper()
	room := argument[:cap(argument)]
	was := slices.Clone(room)
	result = result[:cap(result)]
	for i := range result {
		result[i] = other
	}
	if !slices.Equal(room, was) {
		t.Errorf("a result of %s shares memory with its argument", what)
	}
}
