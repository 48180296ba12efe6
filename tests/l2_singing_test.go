package tests

import (
	"maps"
	"math"
	"slices"
	"strings"
	"testing"

	"loop.example/neumes/impl"
)

var hexNames = strings.Fields("ut re mi fa sol la")

// hexStepsOf are the steps of the hexachords that have a tone, made without the program's own functions.
func hexStepsOf(x impl.Tone) []int {
	steps := []int{}
	for step, texts := range hexTexts {
		if slices.Contains(strings.Fields(texts), textOf([]impl.Tone{x})) {
			steps = append(steps, step)
		}
	}
	slices.Sort(steps)
	return steps
}

// songsOf are all lists that sing a melody, the lower steps first.
func songsOf(m []impl.Tone) [][]int {
	songs := [][]int{{}}
	for _, x := range m {
		longer := [][]int{}
		for _, song := range songs {
			for _, step := range hexStepsOf(x) {
				longer = append(longer, append(slices.Clone(song), step))
			}
		}
		songs = longer
	}
	return songs
}

func mutationsOf(song []int) int {
	many := 0
	for i := range song {
		if i > 0 && song[i] != song[i-1] {
			many++
		}
	}
	return many
}

func betterSong(a, b []int) bool {
	if mutationsOf(a) != mutationsOf(b) {
		return mutationsOf(a) < mutationsOf(b)
	}
	return slices.Compare(a, b) < 0
}

// bestSongOf keeps, tone by tone from the first one on, the best list that ends with each hexachord.
func bestSongOf(m []impl.Tone) ([]int, bool) {
	songs := [][]int{{}}
	for _, x := range m {
		longer := [][]int{}
		for _, step := range hexStepsOf(x) {
			best := []int(nil)
			for _, song := range songs {
				if s := append(slices.Clone(song), step); best == nil || betterSong(s, best) {
					best = s
				}
			}
			if best != nil {
				longer = append(longer, best)
			}
		}
		songs = longer
	}
	best := []int(nil)
	for i, song := range songs {
		if i == 0 || betterSong(song, best) {
			best = song
		}
	}
	return best, len(songs) > 0
}

func namesOf(m []impl.Tone, song []int) string {
	names := []string{}
	for i, x := range m {
		names = append(names, hexNames[slices.Index(strings.Fields(hexTexts[song[i]]), textOf([]impl.Tone{x}))])
	}
	return strings.Join(names, " ")
}

// fewToneMelodies are melodies of at most five tones of which all lists can be tried.
func fewToneMelodies() [][]impl.Tone {
	list := shortMelodies()
	for _, m := range longMelodies() {
		list = append(list, m[:3], m[:min(4, len(m))], m[max(0, len(m)-5):])
	}
	return list
}

func checkSings(t *testing.T, m []impl.Tone, song []int) {
	t.Helper()
	if !impl.SingOk(m, song) {
		t.Errorf("SingOk(%s, %v) does not hold", textOf(m), song)
	}
	if n := impl.SingMutations(m, song); n != mutationsOf(song) {
		t.Errorf("SingMutations(%s, %v) = %d; want %d", textOf(m), song, n, mutationsOf(song))
	}
	if s := impl.SingText(m, song); s != namesOf(m, song) {
		t.Errorf("SingText(%s, %v) = %q; want %q", textOf(m), song, s, namesOf(m, song))
	}
}

func checkNoSong(t *testing.T, m []impl.Tone, song []int) {
	t.Helper()
	if impl.SingOk(m, song) {
		t.Errorf("SingOk(%v, %v) holds", m, song)
	}
	if n := impl.SingMutations(m, song); n != -1 {
		t.Errorf("SingMutations(%v, %v) = %d", m, song, n)
	}
	if s := impl.SingText(m, song); s != "" {
		t.Errorf("SingText(%v, %v) = %q", m, song, s)
	}
}

func TestP20AllSongs(t *testing.T) {
	for _, m := range fewToneMelodies() {
		best, _ := impl.SingBest(m)
		for _, song := range songsOf(m) {
			checkSings(t, m, song)
			if len(m) == 0 {
				continue
			}
			if n := impl.SingMutations(m, song); n >= len(m) || n < impl.SingMutations(m, best) {
				t.Errorf("SingMutations(%s, %v) = %d; that of SingBest is %d", textOf(m), song, n, impl.SingMutations(m, best))
			}
			if names := strings.Split(impl.SingText(m, song), " "); len(names) != len(m) {
				t.Errorf("SingText(%s, %v) has %d names", textOf(m), song, len(names))
			}
		}
	}
}

func TestP20ListsOfAnotherLength(t *testing.T) {
	for _, m := range someMelodies() {
		best, ok := impl.SingBest(m)
		if !ok {
			continue
		}
		checkNoSong(t, m, append(slices.Clone(best), 3))
		checkNoSong(t, m, append([]int{3}, best...))
		checkNoSong(t, m, append(slices.Clone(best), slices.Repeat([]int{3}, 30)...))
		if len(m) > 0 {
			checkNoSong(t, m, best[1:])
			checkNoSong(t, m, best[:len(best)-1])
			checkNoSong(t, m, nil)
		}
	}
	checkSings(t, nil, nil)
	checkSings(t, []impl.Tone{}, []int{})
	checkSings(t, repeated(t, "D0", 24), slices.Repeat([]int{0, 3}, 12))
}

func TestP20OtherSteps(t *testing.T) {
	far := append(noHexSteps(), slices.Sorted(maps.Keys(hexTexts))...)
	for _, m := range someMelodies() {
		best, ok := impl.SingBest(m)
		if !ok {
			continue
		}
		for i, x := range m {
			steps := hexStepsOf(x)
			for _, step := range far {
				song := slices.Clone(best)
				song[i] = step
				if slices.Contains(steps, step) {
					checkSings(t, m, song)
				} else {
					checkNoSong(t, m, song)
				}
			}
		}
	}
}

func TestP20TonesInNoHexachord(t *testing.T) {
	for _, text := range []string{"b0", "F2", "b0 b0", "D0 b0", "F2 D0", "D0 b0 D0", "A0 b0 A0", "E2 F2 E2"} {
		m := tonesOf(t, text)
		for step := range hexTexts {
			checkNoSong(t, m, slices.Repeat([]int{step}, len(m)))
		}
		checkNoSong(t, m, nil)
	}
}

func TestP20NoMelody(t *testing.T) {
	for _, m := range noMelodies(t) {
		for _, step := range []int{0, 3, 6, -1} {
			checkNoSong(t, m, slices.Repeat([]int{step}, len(m)))
		}
		checkNoSong(t, m, nil)
	}
	for _, x := range badTones() {
		for _, step := range []int{x.Step, x.Step - 3, math.MinInt, math.MaxInt} {
			checkNoSong(t, []impl.Tone{x}, []int{step})
		}
	}
}

func TestP20SongsOfTheDocument(t *testing.T) {
	m := tonesOf(t, "D0 F0 G1 A1 b1 A1")
	for _, c := range []struct {
		song      []int
		mutations int
		text      string
	}{
		{[]int{0, 6, 6, 6, 6, 6}, 1, "sol ut re mi fa mi"},
		{[]int{3, 3, 3, 3, 6, 6}, 1, "re fa sol la fa mi"},
		{[]int{0, 3, 6, 7, 6, 7}, 5, "sol fa re re fa re"},
		{[]int{3, 6, 7, 3, 6, 3}, 5, "re ut ut la fa la"},
		{[]int{0, 6, 6, 6, 7, 6}, -1, ""},
		{[]int{0, 0, 6, 6, 6, 6}, -1, ""},
	} {
		if n, s := impl.SingMutations(m, c.song), impl.SingText(m, c.song); n != c.mutations || s != c.text || impl.SingOk(m, c.song) != (n >= 0) {
			t.Errorf("of %v, SingMutations is %d, SingText is %q; want %d, %q", c.song, n, s, c.mutations, c.text)
		}
	}
}

func TestP21SingBest(t *testing.T) {
	sung := 0
	for _, m := range someMelodies() {
		got, ok := impl.SingBest(m)
		want, is := bestSongOf(m)
		if ok != is || !slices.Equal(got, want) {
			t.Errorf("SingBest(%s) = %v, %v; want %v, %v", textOf(m), got, ok, want, is)
		}
		if !ok {
			continue
		}
		sung++
		checkSings(t, m, got)
		checkOtherStep(t, m, got)
	}
	if sung < 800 {
		t.Errorf("only %d melodies could be sung", sung)
	}
}

// checkOtherStep replaces each one step of the best list by each other hexachord of its tone.
func checkOtherStep(t *testing.T, m []impl.Tone, best []int) {
	n := impl.SingMutations(m, best)
	for i, x := range m {
		for _, step := range impl.HexAll(x) {
			other := slices.Clone(best)
			other[i] = step
			if k := impl.SingMutations(m, other); k < n || k == n && step < best[i] {
				t.Errorf("SingBest(%s) = %v has %d mutations, and %v has %d", textOf(m), best, n, other, k)
			}
		}
	}
}

func TestP21SingBestOfAllSongs(t *testing.T) {
	for _, m := range fewToneMelodies() {
		songs := songsOf(m)
		got, ok := impl.SingBest(m)
		if ok != (len(songs) > 0) {
			t.Errorf("SingBest(%s) = %v, %v, and %d lists sing it", textOf(m), got, ok, len(songs))
		}
		for _, song := range songs {
			if betterSong(song, got) {
				t.Errorf("SingBest(%s) = %v, and %v is better", textOf(m), got, song)
			}
		}
	}
}

func TestP21SingBestEdges(t *testing.T) {
	for _, c := range []struct {
		text string
		want []int
	}{
		{"", []int{}}, {"G0", []int{0}}, {"G1", []int{3}}, {"D1", []int{6}}, {"F1", []int{10}}, {"C2", []int{13}}, {"E2", []int{14}},
		{"D0 F0 G1 A1 b1 A1", []int{0, 6, 6, 6, 6, 6}},
		{"A1 F0 D0", []int{3, 3, 3}}, {"b1 G1 B1", []int{6, 6, 7}}, {"B1 G1 b1", []int{7, 6, 6}}, {"b1 B1", []int{6, 7}},
		{"b1 A1 A1 B1", []int{6, 6, 6, 7}}, {"B1 A1 A1 b1", []int{7, 6, 6, 6}}, // three best lists each: the first lower step decides
		{"G0 E1", []int{0, 7}}, {"E0 E0 F0", []int{3, 3, 3}}, {"C0 D0 F0 D0 B0", []int{3, 3, 3, 0, 0}},
		{"G0 D0 F0", []int{0, 0, 3}}, {"D0 G1 C1", []int{0, 6, 6}}, {"D0 C1", []int{0, 6}}, {"C1 D0", []int{6, 0}},
	} {
		got, ok := impl.SingBest(tonesOf(t, c.text))
		if !ok || !slices.Equal(got, c.want) {
			t.Errorf("SingBest(%s) = %v, %v; want %v", c.text, got, ok, c.want)
		}
	}
}

func TestP21SingBestFails(t *testing.T) {
	for _, text := range []string{"b0", "F2", "b0 b0", "F2 F2 F2", "D0 b0", "b0 D0", "D0 b0 D0", "A0 b0 A0", "E2 F2", "F2 E2", "E2 F2 E2", "b0 F2"} {
		if got, ok := impl.SingBest(tonesOf(t, text)); ok || len(got) != 0 {
			t.Errorf("SingBest(%s) = %v, %v", text, got, ok)
		}
	}
	for i := range 24 {
		m := repeated(t, "G1", 24)
		m[i] = toneOf(t, "F2")
		if got, ok := impl.SingBest(m); ok || len(got) != 0 {
			t.Errorf("SingBest(%s) = %v, %v", textOf(m), got, ok)
		}
	}
	for _, m := range noMelodies(t) {
		if got, ok := impl.SingBest(m); ok || len(got) != 0 {
			t.Errorf("SingBest(%v) = %v, %v", m, got, ok)
		}
	}
}

// oneHexachord tells whether some hexachord has all tones.
func oneHexachord(m []impl.Tone) bool {
	for step := range hexTexts {
		if !slices.ContainsFunc(m, func(x impl.Tone) bool { return !slices.Contains(hexStepsOf(x), step) }) {
			return true
		}
	}
	return false
}

func TestP22Mutations(t *testing.T) {
	without := 0
	for _, m := range someMelodies() {
		best, ok := impl.SingBest(m)
		if !ok {
			continue
		}
		n := impl.SingMutations(m, best)
		if (n == 0) != oneHexachord(m) {
			t.Errorf("SingBest(%s) = %v has %d mutations", textOf(m), best, n)
		}
		different := len(slices.Compact(slices.Sorted(slices.Values(best))))
		if n < different-1 {
			t.Errorf("SingBest(%s) = %v has %d hexachords and %d mutations", textOf(m), best, different, n)
		}
		if n == 0 && len(m) > 2 {
			without++
		}
	}
	if without < 5 {
		t.Errorf("only %d melodies need no mutation", without)
	}
}

func TestP22AllTonesOfAHexachord(t *testing.T) {
	for step, texts := range hexTexts {
		m := slices.Repeat(tonesOf(t, texts), 4)
		if best, ok := impl.SingBest(m); !ok || !slices.Equal(best, slices.Repeat([]int{step}, 24)) {
			t.Errorf("SingBest(%s) = %v, %v", textOf(m), best, ok)
		}
	}
	m := slices.Repeat(tonesOf(t, "b1 B1"), 12)
	best, ok := impl.SingBest(m)
	if n := impl.SingMutations(m, best); !ok || n != 23 || !slices.Equal(best, slices.Repeat([]int{6, 7}, 12)) {
		t.Errorf("SingBest(%s) = %v, %v with %d mutations", textOf(m), best, ok, n)
	}
}

func TestP23SingMany(t *testing.T) {
	for _, m := range someMelodies() {
		want := 1
		for _, x := range m {
			want *= len(hexStepsOf(x))
		}
		got := impl.SingMany(m)
		if got != want {
			t.Errorf("SingMany(%s) = %d; want %d", textOf(m), got, want)
		}
		if _, ok := impl.SingBest(m); ok != (got != 0) {
			t.Errorf("SingMany(%s) = %d, and SingBest tells %v", textOf(m), got, ok)
		}
		product := 1
		for _, x := range m {
			product *= len(impl.HexAll(x))
		}
		if got != product {
			t.Errorf("SingMany(%s) = %d; the product of HexAll is %d", textOf(m), got, product)
		}
	}
	for _, m := range fewToneMelodies() {
		if got := impl.SingMany(m); got != len(songsOf(m)) {
			t.Errorf("SingMany(%s) = %d, and %d lists sing it", textOf(m), got, len(songsOf(m)))
		}
	}
}

func TestP23SingManyEdges(t *testing.T) {
	for _, c := range []struct {
		text string
		want int
	}{
		{"", 1}, {"G0", 1}, {"C0", 2}, {"G1", 3}, {"b0", 0}, {"F2", 0}, {"G1 b0", 0}, {"F2 G1", 0}, {"G1 A1 b1", 9}, {"G1 A1 C1 D1 F1", 162},
	} {
		if got := impl.SingMany(tonesOf(t, c.text)); got != c.want {
			t.Errorf("SingMany(%s) = %d; want %d", c.text, got, c.want)
		}
	}
	if got := impl.SingMany(repeated(t, "G1", 24)); got != 282429536481 {
		t.Errorf("SingMany of 24 tones in three hexachords each = %d; want 3 to the power of 24", got)
	}
	for _, m := range noMelodies(t) {
		if got := impl.SingMany(m); got != -1 {
			t.Errorf("SingMany(%v) = %d", m, got)
		}
	}
}

func TestP24Parts(t *testing.T) {
	for _, m := range fewToneMelodies() {
		for _, song := range songsOf(m) {
			checkParts(t, m, song)
		}
	}
	for _, m := range longMelodies() {
		song := []int{}
		for i, x := range m {
			if steps := hexStepsOf(x); len(steps) > 0 {
				song = append(song, steps[i*i%len(steps)])
			}
		}
		if len(song) == len(m) {
			checkParts(t, m, song)
		}
		if best, ok := impl.SingBest(m); ok {
			checkParts(t, m, best)
		}
	}
}

// checkParts compares the mutations of a list that sings a melody with those of its parts, for each place at which it is cut.
func checkParts(t *testing.T, m []impl.Tone, song []int) {
	all := impl.SingMutations(m, song)
	if all < 0 {
		t.Errorf("SingMutations(%s, %v) = %d", textOf(m), song, all)
	}
	for i := 0; i <= len(m); i++ {
		want := impl.SingMutations(m[:i], song[:i]) + impl.SingMutations(m[i:], song[i:])
		if i > 0 && i < len(m) && song[i-1] != song[i] {
			want++
		}
		if all != want {
			t.Errorf("SingMutations(%s, %v) = %d; cut at %d it is %d", textOf(m), song, all, i, want)
		}
	}
}

func TestSingArgumentsStay(t *testing.T) {
	m, song := tonesOf(t, "D0 F0 G1 A1 b1 A1"), []int{0, 6, 6, 6, 6, 6}
	a, list := spare(m), spare(song)
	impl.SingOk(a, list)
	impl.SingMutations(a, list)
	impl.SingText(a, list)
	first, _ := impl.SingBest(a)
	clear(first[:cap(first)])
	if again, ok := impl.SingBest(a); !ok || !slices.Equal(again, song) {
		t.Errorf("SingBest(%s) = %v, %v after a change of an earlier result", textOf(m), again, ok)
	}
	if !slices.Equal(a, m) || !slices.Equal(list, song) {
		t.Errorf("the arguments have become %v and %v", a, list)
	}
}
