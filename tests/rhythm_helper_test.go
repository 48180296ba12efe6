package tests

import (
	"math"
	"math/rand/v2"
	"slices"
	"strconv"
	"strings"
	"testing"

	"loop.example/neumes/impl"
)

// feet are the feet of the rhythmic modes 1 to 6, with a digit for the beats of each tone.
var feet = []string{"21", "12", "312", "123", "33", "111"}

// ordoOf puts whole feet one behind the other until there are enough tones, and cuts the rest off. It is made without the program's own functions, as all that follows.
func ordoOf(mode, n int) ([]int, int) {
	beats := []int{}
	for len(beats) < n {
		for _, digit := range feet[mode-1] {
			beats = append(beats, int(digit-'0'))
		}
	}
	return beats[:n], sumOf(beats[n:])
}

func rhythmsOf(beats []int) []int {
	modes := []int{}
	for mode := 1; mode <= 6 && len(beats) >= 1 && len(beats) <= 12; mode++ {
		if ordo, _ := ordoOf(mode, len(beats)); slices.Equal(ordo, beats) {
			modes = append(modes, mode)
		}
	}
	return modes
}

// partOf reads words like D0.2: a tone and its beats.
func partOf(t *testing.T, text string) []impl.Voice {
	t.Helper()
	part := []impl.Voice{}
	for _, word := range strings.Fields(text) {
		tone, beats, _ := strings.Cut(word, ".")
		n, err := strconv.Atoi(beats)
		if err != nil {
			t.Fatal(err)
		}
		part = append(part, impl.Voice{Tone: toneOf(t, tone), Beats: n})
	}
	return part
}

// madeOf is the part of a melody with as many beats.
func madeOf(m []impl.Tone, beats []int) []impl.Voice {
	part := []impl.Voice{}
	for i, x := range m {
		part = append(part, impl.Voice{Tone: x, Beats: beats[i]})
	}
	return part
}

func tonesOfPart(part []impl.Voice) []impl.Tone {
	m := []impl.Tone{}
	for _, v := range part {
		m = append(m, v.Tone)
	}
	return m
}

func beatsOfPart(part []impl.Voice) []int {
	list := []int{}
	for _, v := range part {
		list = append(list, v.Beats)
	}
	return list
}

// soundsOf are the tones that a part sounds, one for each beat.
func soundsOf(part []impl.Voice) []impl.Tone {
	list := []impl.Tone{}
	for _, v := range part {
		list = append(list, slices.Repeat([]impl.Tone{v.Tone}, v.Beats)...)
	}
	return list
}

// slowOf joins the first two tones that can be joined, again and again.
func slowOf(part []impl.Voice) []impl.Voice {
	for i := 1; i < len(part); i++ {
		a, b := part[i-1], part[i]
		if a.Tone == b.Tone && a.Beats+b.Beats <= 3 {
			one := impl.Voice{Tone: a.Tone, Beats: a.Beats + b.Beats}
			return slowOf(slices.Concat(part[:i-1], []impl.Voice{one}, part[i+1:]))
		}
	}
	return part
}

// concordOf looks for the number of semitones among those of the pure intervals.
func concordOf(x, y impl.Tone) bool {
	if x.Step > y.Step {
		x, y = y, x
	}
	for octave := range 3 {
		for _, pure := range [][2]int{{0, 0}, {3, 5}, {4, 7}} {
			if y.Step-x.Step == pure[0]+7*octave && heightOf(y)-heightOf(x) == pure[1]+12*octave {
				return true
			}
		}
	}
	return false
}

func concordsOf(a, b []impl.Voice) []int {
	list := []int{}
	soundsA, soundsB := soundsOf(a), soundsOf(b)
	for beat := 0; beat < len(soundsA); beat += 3 {
		if concordOf(soundsA[beat], soundsB[beat]) {
			list = append(list, beat)
		}
	}
	return list
}

func discantOf(a, b []impl.Voice) bool {
	soundsA, soundsB := soundsOf(a), soundsOf(b)
	n := len(soundsA)
	return n == 0 || len(concordsOf(a, b)) == (n+2)/3 && concordOf(soundsA[n-1], soundsB[n-1])
}

// motionsOf tells of each beat but the first one how many steps both parts have gone up to it.
func motionsOf(a, b []impl.Voice) [][2]int {
	stepsA, stepsB := stepsOf(soundsOf(a)), stepsOf(soundsOf(b))
	list := [][2]int{}
	for i := range stepsA {
		list = append(list, [2]int{stepsA[i], stepsB[i]})
	}
	return list
}

func parallelsOf(a, b []impl.Voice) int {
	soundsA, soundsB := soundsOf(a), soundsOf(b)
	many := 0
	for i, m := range motionsOf(a, b) {
		if m[0] == m[1] && m[0] != 0 && concordOf(soundsA[i], soundsB[i]) && concordOf(soundsA[i+1], soundsB[i+1]) {
			many++
		}
	}
	return many
}

func contraryOf(a, b []impl.Voice) int {
	many := 0
	for _, m := range motionsOf(a, b) {
		if m[0]*m[1] < 0 {
			many++
		}
	}
	return many
}

func crossOf(a, b []impl.Voice) int {
	many := 0
	soundsB := soundsOf(b)
	for i, x := range soundsOf(a) {
		if x.Step > soundsB[i].Step {
			many++
		}
	}
	return many
}

func shiftsOf(part []impl.Voice) int {
	return len(slices.DeleteFunc(stepsOf(soundsOf(part)), func(d int) bool { return d == 0 }))
}

// partsOfBeats are all parts with that many beats and tones out of a list.
func partsOfBeats(from []impl.Tone, beats int) [][]impl.Voice {
	if beats == 0 {
		return [][]impl.Voice{{}}
	}
	list := [][]impl.Voice{}
	for last := 1; last <= min(3, beats); last++ {
		for _, ahead := range partsOfBeats(from, beats-last) {
			for _, x := range from {
				list = append(list, append(slices.Clone(ahead), impl.Voice{Tone: x, Beats: last}))
			}
		}
	}
	return list
}

// drawnBeats are the beats of at most 12 tones with that sum.
func drawnBeats(r *rand.Rand, sum int) []int {
	for {
		list := []int{}
		for rest := sum; rest > 0; rest -= list[len(list)-1] {
			list = append(list, 1+r.IntN(min(3, rest)))
		}
		if len(list) <= 12 {
			return list
		}
	}
}

func drawnPart(r *rand.Rand, from []impl.Tone, sum int) []impl.Voice {
	beats := drawnBeats(r, sum)
	return madeOf(drawn(r, from, len(beats)), beats)
}

// someParts are all short ones, drawn ones of each number of beats with many or few tones, and those of 12 tones.
func someParts(t *testing.T) [][]impl.Voice {
	list := [][]impl.Voice{{}}
	for beats := 1; beats <= 3; beats++ {
		list = append(list, partsOfBeats(tonesOf(t, "D0 b1 B1"), beats)...)
		for _, x := range allTones() {
			list = append(list, []impl.Voice{{Tone: x, Beats: beats}})
		}
	}
	for beats := 4; beats <= 6; beats++ {
		list = append(list, partsOfBeats(tonesOf(t, "b1"), beats)...)
	}
	list = append(list, partsOfBeats(tonesOf(t, "b1 B1"), 4)...)
	r := rand.New(rand.NewPCG(24, 12))
	for beats := 4; beats <= 24; beats++ {
		for range 8 {
			list = append(list, drawnPart(r, allTones(), beats), drawnPart(r, tonesOf(t, "D0 F0"), beats), drawnPart(r, tonesOf(t, "G1"), beats), drawnPart(r, tonesOf(t, "b0 B0 C0"), beats))
		}
	}
	for _, beats := range []int{1, 2} {
		list = append(list, madeOf(drawn(r, allTones(), 12), slices.Repeat([]int{beats}, 12)), madeOf(repeated(t, "F2", 12), slices.Repeat([]int{beats}, 12)))
	}
	return append(list, madeOf(repeated(t, "b2", 8), slices.Repeat([]int{3}, 8)))
}

// badBeats are numbers of beats that no Voice has, some of them only if they do not wrap around.
func badBeats() []int {
	return append(outOf(3), 0, 256, 257, 259, 1<<32+3, math.MinInt+3)
}

// noParts have an invalid tone or number of beats at some place, too many tones or too many beats.
func noParts(t *testing.T) [][]impl.Voice {
	list := [][]impl.Voice{}
	for _, bad := range badTones() {
		list = append(list, []impl.Voice{{Tone: bad, Beats: 1}}, []impl.Voice{{Tone: bad, Beats: 3}, {Tone: bad, Beats: 3}})
		for i := range 3 {
			part := partOf(t, "D0.2 F0.1 G1.3")
			part[i].Tone = bad
			list = append(list, part)
		}
	}
	for _, bad := range badBeats() {
		list = append(list, []impl.Voice{{Beats: bad}}, []impl.Voice{{Beats: bad}, {Beats: -bad}, {Beats: 3}})
		for i := range 3 {
			part := partOf(t, "D0.2 F0.1 G1.3")
			part[i].Beats = bad
			list = append(list, part)
		}
	}
	list = append(list, []impl.Voice{{Beats: math.MaxInt}, {Beats: math.MaxInt}, {Beats: 3}}, []impl.Voice{{Beats: 3}, {Beats: -2}, {Beats: 2}})
	for _, n := range []int{13, 14, 24, 25, 1000} {
		list = append(list, slices.Repeat(partOf(t, "D0.1"), n))
	}
	list = append(list, partOf(t, "D0.3 D0.3 D0.3 D0.3 D0.3 D0.3 D0.3 D0.3 D0.1"), append(slices.Repeat(partOf(t, "A1.2"), 11), partOf(t, "A1.3")...), append(partOf(t, "A1.3"), slices.Repeat(partOf(t, "A1.2"), 11)...))
	for n := 9; n <= 13; n++ {
		list = append(list, slices.Repeat(partOf(t, "E0.3"), n))
	}
	full := slices.Repeat(partOf(t, "C0.2"), 12)
	for i := range full {
		part := slices.Clone(full)
		part[i].Tone.Soft = true
		other := slices.Clone(full)
		other[i].Beats = 0
		list = append(list, part, other)
	}
	return append(list, append(slices.Clone(full), impl.Voice{Tone: impl.Tone{Step: -1}, Beats: 1}), append(slices.Clone(full), impl.Voice{}))
}

// pair is two parts that are together.
type pair struct {
	a []impl.Voice
	b []impl.Voice
}

// somePairs are all pairs of short parts with a few tones, and drawn ones of each number of beats.
func somePairs(t *testing.T) []pair {
	list := []pair{{}}
	for _, c := range []struct {
		tones string
		beats int
	}{{toneTexts, 1}, {"D0 G1 b1 B1", 2}, {"D0 G1 A1 C1", 2}, {"F0 b1 B1", 3}, {"D0 A1", 4}, {"D0 G1 A1", 3}} {
		parts := partsOfBeats(tonesOf(t, c.tones), c.beats)
		for _, a := range parts {
			for _, b := range parts {
				list = append(list, pair{a, b})
			}
		}
	}
	r := rand.New(rand.NewPCG(8, 87))
	for beats := 1; beats <= 24; beats++ {
		for range 40 {
			list = append(list, drawnPairs(t, r, beats)...)
		}
	}
	return list
}

// drawnPairs are one of near tones, one of tones all of which are concords, one whose second part is concords to the first one, and one with another tone somewhere in it.
func drawnPairs(t *testing.T, r *rand.Rand, beats int) []pair {
	near, pure := tonesOf(t, "D0 E0 F0 G1 A1 b1 B1 C1"), tonesOf(t, "D0 A1 D1 A2 D2")
	a := drawnPart(r, near, beats)
	b := slices.Clone(a)
	for i, v := range a {
		concords := slices.DeleteFunc(allTones(), func(x impl.Tone) bool { return !concordOf(v.Tone, x) })
		b[i].Tone = concords[r.IntN(len(concords))]
	}
	other := slices.Clone(b)
	other[r.IntN(len(b))].Tone = near[r.IntN(len(near))]
	return []pair{
		{drawnPart(r, near, beats), drawnPart(r, near, beats)},
		{drawnPart(r, pure, beats), drawnPart(r, pure, beats)},
		{a, b}, {a, other},
	}
}
