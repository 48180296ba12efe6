package tests

import (
	"math/rand/v2"
	"slices"
	"testing"

	"loop.example/neumes/impl"
)

func TestP81RhythmOrdo(t *testing.T) {
	for mode := 1; mode <= 6; mode++ {
		foot := impl.RhythmFoot(mode)
		whole, _ := ordoOf(mode, len(feet[mode-1]))
		if !slices.Equal(foot, whole) || sumOf(foot) != 3 && sumOf(foot) != 6 {
			t.Errorf("RhythmFoot(%d) = %v", mode, foot)
		}
		for n := 1; n <= 12; n++ {
			beats, rest, ok := impl.RhythmOrdo(mode, n)
			wantBeats, wantRest := ordoOf(mode, n)
			if !ok || !slices.Equal(beats, wantBeats) || rest != wantRest {
				t.Errorf("RhythmOrdo(%d, %d) = %v, %d, %v; want %v, %d", mode, n, beats, rest, ok, wantBeats, wantRest)
				continue
			}
			sum := sumOf(beats) + rest
			if impl.RhythmBeats(mode, n) != sum || sum%sumOf(foot) != 0 || rest >= sumOf(foot) {
				t.Errorf("RhythmBeats(%d, %d) = %d; want %d, feet of %d beats", mode, n, impl.RhythmBeats(mode, n), sum, sumOf(foot))
			}
			if longer, _, ok := impl.RhythmOrdo(mode, n+1); ok != (n < 12) || ok && !slices.Equal(longer[:n], beats) {
				t.Errorf("RhythmOrdo(%d, %d) = %v, %v, but with a tone less it is %v", mode, n+1, longer, ok, beats)
			}
			if !slices.Contains(impl.RhythmModes(beats), mode) {
				t.Errorf("RhythmModes(%v) = %v without %d", beats, impl.RhythmModes(beats), mode)
			}
		}
	}
}

func TestP81RhythmOrdoEdges(t *testing.T) {
	for _, c := range []struct {
		mode, n   int
		beats     string
		rest, sum int
	}{
		{1, 1, "2", 1, 3}, {1, 2, "2 1", 0, 3}, {1, 3, "2 1 2", 1, 6}, {1, 12, "2 1 2 1 2 1 2 1 2 1 2 1", 0, 18},
		{2, 1, "1", 2, 3}, {2, 11, "1 2 1 2 1 2 1 2 1 2 1", 2, 18}, {2, 12, "1 2 1 2 1 2 1 2 1 2 1 2", 0, 18},
		{3, 1, "3", 3, 6}, {3, 2, "3 1", 2, 6}, {3, 3, "3 1 2", 0, 6}, {3, 4, "3 1 2 3", 3, 12}, {3, 12, "3 1 2 3 1 2 3 1 2 3 1 2", 0, 24},
		{4, 1, "1", 5, 6}, {4, 2, "1 2", 3, 6}, {4, 11, "1 2 3 1 2 3 1 2 3 1 2", 3, 24}, {4, 12, "1 2 3 1 2 3 1 2 3 1 2 3", 0, 24},
		{5, 1, "3", 3, 6}, {5, 2, "3 3", 0, 6}, {5, 12, "3 3 3 3 3 3 3 3 3 3 3 3", 0, 36},
		{6, 1, "1", 2, 3}, {6, 2, "1 1", 1, 3}, {6, 3, "1 1 1", 0, 3}, {6, 11, "1 1 1 1 1 1 1 1 1 1 1", 1, 12}, {6, 12, "1 1 1 1 1 1 1 1 1 1 1 1", 0, 12},
	} {
		beats, rest, ok := impl.RhythmOrdo(c.mode, c.n)
		if !ok || textOfNumbers(beats) != c.beats || rest != c.rest || impl.RhythmBeats(c.mode, c.n) != c.sum {
			t.Errorf("RhythmOrdo(%d, %d) = %v, %d, %v, and RhythmBeats is %d; want %s, %d and %d", c.mode, c.n, beats, rest, ok, impl.RhythmBeats(c.mode, c.n), c.beats, c.rest, c.sum)
		}
	}
}

func TestP81InvalidModesAndNumbers(t *testing.T) {
	badModes, badNumbers := append(outOf(6), 0, 255, 1<<32+6), append(outOf(12), 0, 255, 257, 1<<32+12)
	for _, mode := range badModes {
		if foot := impl.RhythmFoot(mode); len(foot) != 0 {
			t.Errorf("RhythmFoot(%d) = %v", mode, foot)
		}
		for n := range 14 {
			checkNoOrdo(t, mode, n)
		}
		for _, n := range badNumbers {
			checkNoOrdo(t, mode, n)
		}
	}
	for mode := 1; mode <= 6; mode++ {
		for _, n := range badNumbers {
			checkNoOrdo(t, mode, n)
		}
	}
}

func checkNoOrdo(t *testing.T, mode, n int) {
	t.Helper()
	if beats, rest, ok := impl.RhythmOrdo(mode, n); ok || len(beats) != 0 || rest != 0 {
		t.Errorf("RhythmOrdo(%d, %d) = %v, %d, %v", mode, n, beats, rest, ok)
	}
	if sum := impl.RhythmBeats(mode, n); sum != -1 {
		t.Errorf("RhythmBeats(%d, %d) = %d", mode, n, sum)
	}
}

// TestP81NewMemory writes into the results and looks whether later ones are still right.
func TestP81NewMemory(t *testing.T) {
	for mode := 1; mode <= 6; mode++ {
		for n := 1; n <= 12; n++ {
			want, _ := ordoOf(mode, n)
			foot := impl.RhythmFoot(mode)
			first, _, _ := impl.RhythmOrdo(mode, n)
			second, _, _ := impl.RhythmOrdo(mode, n)
			checkApart(t, "RhythmOrdo", first, second, 9)
			checkApart(t, "RhythmFoot", foot, second, 8)
			if again, _, _ := impl.RhythmOrdo(mode, n); !slices.Equal(again, want) || len(impl.RhythmFoot(mode)) != len(feet[mode-1]) || impl.RhythmFoot(mode)[0] != want[0] {
				t.Errorf("RhythmOrdo(%d, %d) = %v behind a change of earlier results", mode, n, again)
			}
		}
	}
}

func TestP82RhythmModes(t *testing.T) {
	several := 0
	for n := range 8 {
		for _, list := range listsOf(n, 2) {
			for i := range list {
				list[i]++
			}
			checkRhythmModes(t, list)
			if len(impl.RhythmModes(list)) > 1 {
				several++
			}
		}
	}
	if several != 3 {
		t.Errorf("%d lists have several modes", several)
	}
	for n := 1; n <= 13; n++ {
		for mode := 1; mode <= 6; mode++ {
			beats, _ := ordoOf(mode, n)
			checkRhythmModes(t, beats)
			for i := range beats {
				for _, other := range []int{1, 2, 3} {
					checkRhythmModes(t, replaced(beats, i, other))
				}
				for _, bad := range badBeats() {
					checkRhythmModes(t, replaced(beats, i, bad))
				}
			}
		}
	}
}

func checkRhythmModes(t *testing.T, beats []int) {
	t.Helper()
	argument := spare(beats)
	modes := impl.RhythmModes(argument)
	if !slices.Equal(modes, rhythmsOf(beats)) || !slices.Equal(argument, beats) {
		t.Errorf("RhythmModes(%v) = %v; want %v", beats, modes, rhythmsOf(beats))
	}
	for _, mode := range modes {
		if ordo, _, ok := impl.RhythmOrdo(mode, len(beats)); !ok || !slices.Equal(ordo, beats) {
			t.Errorf("RhythmModes(%v) = %v, but RhythmOrdo of %d is %v", beats, modes, mode, ordo)
		}
	}
	if len(beats) >= 3 && len(modes) > 1 {
		t.Errorf("RhythmModes(%v) = %v", beats, modes)
	}
	checkApart(t, "RhythmModes", modes, argument, 9)
}

func TestP82RhythmModesEdges(t *testing.T) {
	for _, c := range []struct{ beats, want string }{
		{"", ""}, {"1", "2 4 6"}, {"2", "1"}, {"3", "3 5"}, {"0", ""}, {"4", ""}, {"-1", ""},
		{"1 1", "6"}, {"1 2", "2 4"}, {"1 3", ""}, {"2 1", "1"}, {"2 2", ""}, {"2 3", ""}, {"3 1", "3"}, {"3 2", ""}, {"3 3", "5"},
		{"1 2 1", "2"}, {"1 2 3", "4"}, {"3 1 2", "3"}, {"1 1 1", "6"}, {"1 1 2", ""}, {"1 2 0", ""},
		{"1 1 1 1 1 1 1 1 1 1 1 1", "6"}, {"1 1 1 1 1 1 1 1 1 1 1 1 1", ""}, {"3 3 3 3 3 3 3 3 3 3 3 3", "5"}, {"2 1 2 1 2 1 2 1 2 1 2 1 2", ""},
	} {
		if modes := impl.RhythmModes(numbersOf(t, c.beats)); textOfNumbers(modes) != c.want {
			t.Errorf("RhythmModes of %s = %v; want %s", c.beats, modes, c.want)
		}
	}
	if modes := impl.RhythmModes(nil); len(modes) != 0 {
		t.Errorf("RhythmModes of nil = %v", modes)
	}
}

func TestP83PartMake(t *testing.T) {
	for _, part := range someParts(t) {
		m, beats := spare(tonesOfPart(part)), spare(beatsOfPart(part))
		made, ok := impl.PartMake(m, beats)
		if !ok || !slices.Equal(made, part) || !impl.PartValid(part) {
			t.Errorf("PartMake(%v, %v) = %v, %v", m, beats, made, ok)
			continue
		}
		if !slices.Equal(m, tonesOfPart(part)) || !slices.Equal(beats, beatsOfPart(part)) {
			t.Errorf("PartMake of %v changes its arguments", part)
		}
		if sum := impl.PartBeats(made); sum != sumOf(beats) {
			t.Errorf("PartBeats(%v) = %d; want %d", made, sum, sumOf(beats))
		}
		first := 0
		for i, x := range m {
			begin, okBegin := impl.PartAt(made, first)
			end, okEnd := impl.PartAt(made, first+beats[i]-1)
			if !okBegin || !okEnd || begin != x || end != x {
				t.Errorf("PartAt(%v, ..) of the tone %d is %v and %v", made, i, begin, end)
			}
			first += beats[i]
		}
	}
	if part, ok := impl.PartMake(nil, nil); !ok || len(part) != 0 || impl.PartBeats(nil) != 0 || !impl.PartValid(nil) {
		t.Errorf("PartMake of no tones = %v, %v", part, ok)
	}
}

func TestP83InvalidParts(t *testing.T) {
	for _, part := range noParts(t) {
		checkNoPart(t, part)
		checkNotMade(t, tonesOfPart(part), beatsOfPart(part))
	}
	for _, m := range noMelodies(t) {
		checkNotMade(t, m, slices.Repeat([]int{1}, len(m)))
	}
	for n := range 13 {
		m, ones := repeated(t, "G1", n), slices.Repeat([]int{1}, n)
		checkNotMade(t, m, append(ones, 1))
		checkNotMade(t, append(m, impl.Tone{}), ones)
		if n > 0 {
			checkNotMade(t, m, ones[1:])
			checkNotMade(t, m[1:], ones)
			checkNotMade(t, m, nil)
			checkNotMade(t, nil, ones)
		}
	}
	for _, n := range []int{13, 14, 24} {
		checkNotMade(t, repeated(t, "G1", n), slices.Repeat([]int{1}, n))
		checkNotMade(t, repeated(t, "G1", n), slices.Repeat([]int{1}, 12))
		checkNotMade(t, repeated(t, "G1", 12), slices.Repeat([]int{1}, n))
	}
}

func checkNotMade(t *testing.T, m []impl.Tone, beats []int) {
	t.Helper()
	if part, ok := impl.PartMake(m, beats); ok || len(part) != 0 {
		t.Errorf("PartMake(%v, %v) = %v, %v", m, beats, part, ok)
	}
}

// checkNoPart checks all functions of a single part, as none of them takes other lists.
func checkNoPart(t *testing.T, part []impl.Voice) {
	t.Helper()
	if impl.PartValid(part) || impl.PartBeats(part) != -1 {
		t.Errorf("PartValid(%v) = %v, and PartBeats is %d", part, impl.PartValid(part), impl.PartBeats(part))
	}
	for _, beat := range []int{-1, 0, 1, 2, 23, 24, 25} {
		if x, ok := impl.PartAt(part, beat); ok || x != (impl.Tone{}) {
			t.Errorf("PartAt(%v, %d) = %v, %v", part, beat, x, ok)
		}
	}
	if slow, ok := impl.PartSlow(part); ok || len(slow) != 0 {
		t.Errorf("PartSlow(%v) = %v, %v", part, slow, ok)
	}
	for _, k := range []int{0, 1, 7, -7} {
		if moved, ok := impl.DiscantMove(part, k); ok || len(moved) != 0 {
			t.Errorf("DiscantMove(%v, %d) = %v, %v", part, k, moved, ok)
		}
	}
}

func TestP84PartsOfRhythms(t *testing.T) {
	r := rand.New(rand.NewPCG(84, 6))
	for mode := 1; mode <= 6; mode++ {
		for n := 1; n <= 12; n++ {
			beats, rest, _ := impl.RhythmOrdo(mode, n)
			for range 20 {
				m := drawn(r, allTones(), n)
				part, ok := impl.PartMake(m, beats)
				if fits := mode != 5 || n <= 8; ok != fits {
					t.Errorf("PartMake(%v, %v) = %v, %v", m, beats, part, ok)
				} else if ok && (!impl.PartValid(part) || impl.PartBeats(part) != impl.RhythmBeats(mode, n)-rest || !slices.Equal(part, madeOf(m, beats))) {
					t.Errorf("PartMake(%v, %v) = %v of %d beats", m, beats, part, impl.PartBeats(part))
				}
			}
		}
	}
}

func TestP85PartAt(t *testing.T) {
	for _, part := range someParts(t) {
		sounds := []impl.Tone{}
		for beat := range impl.PartBeats(part) {
			x, ok := impl.PartAt(part, beat)
			if !ok || !slices.Contains(tonesOfPart(part), x) {
				t.Errorf("PartAt(%v, %d) = %v, %v", part, beat, x, ok)
			}
			sounds = append(sounds, x)
		}
		if !slices.Equal(sounds, soundsOf(part)) {
			t.Errorf("PartAt of all beats of %v = %v", part, sounds)
		}
		for _, beat := range append(outOf(len(sounds)-1), 255, 256) {
			if beat >= 0 && beat < len(sounds) {
				continue
			}
			if x, ok := impl.PartAt(part, beat); ok || x != (impl.Tone{}) {
				t.Errorf("PartAt(%v, %d) = %v, %v", part, beat, x, ok)
			}
		}
	}
}

func TestP85PartAtEdges(t *testing.T) {
	part := partOf(t, "D0.2 E0.1 b1.3 D0.1")
	for beat, want := range []string{"D0", "D0", "E0", "b1", "b1", "b1", "D0"} {
		if x, ok := impl.PartAt(part, beat); !ok || x != toneOf(t, want) {
			t.Errorf("PartAt(%v, %d) = %v, %v; want %s", part, beat, x, ok, want)
		}
	}
	for _, beat := range []int{-1, -7, 7, 8, 14} {
		if x, ok := impl.PartAt(part, beat); ok || x != (impl.Tone{}) {
			t.Errorf("PartAt(%v, %d) = %v, %v", part, beat, x, ok)
		}
	}
}

func TestP86PartSlow(t *testing.T) {
	slower := 0
	for _, part := range someParts(t) {
		argument := spare(part)
		slow, ok := impl.PartSlow(argument)
		if !ok || !slices.Equal(slow, slowOf(part)) || !slices.Equal(argument, part) {
			t.Errorf("PartSlow(%v) = %v, %v; want %v", part, slow, ok, slowOf(part))
			continue
		}
		if !slices.Equal(soundsOf(slow), soundsOf(part)) || len(slow) > len(part) || !impl.PartValid(slow) {
			t.Errorf("PartSlow(%v) = %v sounds otherwise", part, slow)
		}
		for i := 1; i < len(slow); i++ {
			if slow[i].Tone == slow[i-1].Tone && slow[i].Beats+slow[i-1].Beats <= 3 {
				t.Errorf("PartSlow(%v) = %v could be slower", part, slow)
			}
		}
		if again, ok := impl.PartSlow(slow); !ok || !slices.Equal(again, slow) {
			t.Errorf("PartSlow(%v) = %v, %v", slow, again, ok)
		}
		if len(slow) < len(part) {
			slower++
		}
		checkApart(t, "PartSlow", slow, argument, impl.Voice{Tone: noTone})
	}
	if slower < 100 {
		t.Errorf("just %d parts are slower", slower)
	}
}

func TestP86PartSlowEdges(t *testing.T) {
	for _, c := range []struct{ part, want string }{
		{"", ""}, {"D0.3", "D0.3"}, {"D0.1 D0.1", "D0.2"}, {"D0.1 D0.2", "D0.3"}, {"D0.2 D0.1", "D0.3"}, {"D0.2 D0.2", "D0.2 D0.2"}, {"D0.1 D0.3", "D0.1 D0.3"}, {"D0.3 D0.1", "D0.3 D0.1"}, {"D0.3 D0.3", "D0.3 D0.3"},
		// From the first one on, also with a tone that is joined already.
		{"D0.1 D0.1 D0.1", "D0.3"}, {"D0.1 D0.1 D0.2", "D0.2 D0.2"}, {"D0.1 D0.2 D0.1", "D0.3 D0.1"}, {"D0.2 D0.1 D0.1", "D0.3 D0.1"}, {"D0.2 D0.2 D0.1", "D0.2 D0.3"}, {"D0.2 D0.1 D0.2", "D0.3 D0.2"}, {"D0.1 D0.2 D0.2", "D0.3 D0.2"}, {"D0.1 D0.3 D0.1", "D0.1 D0.3 D0.1"},
		{"D0.1 D0.1 D0.1 D0.1", "D0.3 D0.1"}, {"D0.1 D0.1 D0.2 D0.1", "D0.2 D0.3"}, {"D0.2 D0.2 D0.1 D0.1", "D0.2 D0.3 D0.1"}, {"D0.3 D0.1 D0.1 D0.1", "D0.3 D0.3"}, {"D0.1 D0.2 D0.1 D0.2", "D0.3 D0.3"},
		{"D0.1 D0.1 D0.1 D0.1 D0.1 D0.1 D0.1 D0.1 D0.1 D0.1 D0.1 D0.1", "D0.3 D0.3 D0.3 D0.3"},
		// Other tones, of the same step too, stay apart, and so do equal ones with another one between.
		{"b1.1 B1.1", "b1.1 B1.1"}, {"B1.1 b1.2", "B1.1 b1.2"}, {"b1.1 b1.1 B1.1 B1.1 B1.1", "b1.2 B1.3"}, {"D0.1 E0.1 D0.1", "D0.1 E0.1 D0.1"}, {"D0.1 D1.1", "D0.1 D1.1"}, {"D0.1 E0.1 E0.1 D0.1 D0.1", "D0.1 E0.2 D0.2"},
	} {
		if slow, ok := impl.PartSlow(partOf(t, c.part)); !ok || !slices.Equal(slow, partOf(t, c.want)) {
			t.Errorf("PartSlow of %s = %v, %v; want %s", c.part, slow, ok, c.want)
		}
	}
}
