package tests

import (
	"math/rand/v2"
	"slices"
	"strings"
	"testing"

	"loop.example/neumes/impl"
)

func TestP41PsalmSing(t *testing.T) {
	for _, p := range somePsalms() {
		for _, s := range fewVerses() {
			m, ok := impl.PsalmSing(p, s)
			if !fitsOf(p, s) {
				if ok || len(m) != 0 {
					t.Errorf("PsalmSing(%s, %q) = %v, %v", textOfPsalm(p), s, m, ok)
				}
				continue
			}
			if !ok || !slices.Equal(m, sungOf(p, s)) {
				t.Errorf("PsalmSing(%s, %q) = %v, %v; want %s", textOfPsalm(p), s, m, ok, textOf(sungOf(p, s)))
				continue
			}
			checkTenors(t, p, s, m)
		}
	}
}

// checkTenors compares PsalmTenors with the syllables that are left without the other parts.
func checkTenors(t *testing.T, p impl.Psalm, s string, m []impl.Tone) {
	t.Helper()
	first, _ := halvesOf(s)
	begin, middle, end := len(p.Start), len(first)-len(p.Middle), len(m)-len(p.End)
	if !slices.Equal(m[:begin], p.Start) || !slices.Equal(m[middle:len(first)], p.Middle) || !slices.Equal(m[end:], p.End) {
		t.Errorf("PsalmSing(%s, %q) = %s does not have the parts", textOfPsalm(p), s, textOf(m))
	}
	others := slices.Concat(m[begin:middle], m[len(first):end])
	if slices.ContainsFunc(others, func(x impl.Tone) bool { return x != p.Tenor }) {
		t.Errorf("PsalmSing(%s, %q) = %s has other tones beside the parts", textOfPsalm(p), s, textOf(m))
	}
	if n := impl.PsalmTenors(p, s); n != len(others) || len(m) != impl.VerseSyllables(s) {
		t.Errorf("PsalmTenors(%s, %q) = %d; want %d", textOfPsalm(p), s, n, len(others))
	}
}

func TestP41PsalmSingEdges(t *testing.T) {
	for _, c := range []struct {
		p, s, m string
		tenors  int
	}{
		{"F0 G1:A1:C1 A1:G1", "x/xx/x|/x/", "F0 G1 A1 A1 C1 A1 A1 A1 G1", 4},
		{"F0 G1:A1:C1 A1:G1", "x/xx|/", "F0 G1 C1 A1 G1", 0},
		{"F0 G1:A1:C1 A1:G1", "x/x|/", "", -1},
		{"F0 G1:A1:C1 A1:G1 F0", "x/xx|/", "", -1},
		{"F0 G1:A1:C1 A1:G1", "xxxxx|x", "F0 G1 A1 C1 A1 G1", 1},
		{"F0 G1:A1:C1 A1:G1", "xxxx|xx", "F0 G1 C1 A1 A1 G1", 1},
		{":A1:C1:G1", "x|x", "C1 G1", 0}, {":A1:C1:G1", "xx|x", "A1 C1 G1", 1}, {":A1:C1:G1", "x|/x", "C1 A1 G1", 1},
		{"A1 A1 A1:A1:A1 A1 A1 A1:A1 A1 A1 A1", "xxxxxxxx|xxxxx", "A1 A1 A1 A1 A1 A1 A1 A1 A1 A1 A1 A1 A1", 2},
		{"F0 G1 A1:C1:b1 A1 G1 F0:E0 D0 C0 D0", "xxxxxxx|xxxx", "F0 G1 A1 b1 A1 G1 F0 E0 D0 C0 D0", 0},
		{"F0 G1 A1:C1:b1 A1 G1 F0:E0 D0 C0 D0", "xxxxxx|xxxx", "", -1}, {"F0 G1 A1:C1:b1 A1 G1 F0:E0 D0 C0 D0", "xxxxxxx|xxx", "", -1},
		{":b1:B1:b1 B1", strings.Repeat("/", 10) + "|" + strings.Repeat("x", 10), strings.Repeat("b1 ", 9) + "B1 " + strings.Repeat("b1 ", 8) + "b1 B1", 17},
	} {
		p := psalmOf(t, c.p)
		m, ok := impl.PsalmSing(p, c.s)
		if n := impl.PsalmTenors(p, c.s); n != c.tenors || ok != (n >= 0) || !slices.Equal(m, tonesOf(t, c.m)) || impl.PsalmFits(p, c.s) != ok {
			t.Errorf("PsalmSing(%s, %q) = %v, %v, PsalmTenors is %d", c.p, c.s, m, ok, n)
		}
	}
}

// checkNoChant is for a psalm tone that is invalid or a text that is no verse, or both.
func checkNoChant(t *testing.T, p impl.Psalm, s string) {
	t.Helper()
	m, ok := impl.PsalmSing(p, s)
	tenors, accents := impl.PsalmTenors(p, s), impl.PsalmAccents(p, s)
	if impl.PsalmFits(p, s) || ok || len(m) != 0 || tenors != -1 || accents != -1 {
		t.Errorf("PsalmSing(%v, %.60q) = %v, %v, PsalmTenors is %d, PsalmAccents is %d", p, s, m, ok, tenors, accents)
	}
}

func TestP41NoVerse(t *testing.T) {
	for _, text := range []string{":A1:C1:G1", "F0 G1:A1:C1 A1:G1"} {
		p := psalmOf(t, text)
		for _, s := range noVerses() {
			checkNoChant(t, p, s)
		}
	}
	for _, s := range noVerses() {
		checkNoChant(t, impl.Psalm{}, s)
	}
}

func TestP41InvalidPsalms(t *testing.T) {
	for _, p := range badPsalms(t) {
		if impl.PsalmValid(p) {
			t.Errorf("PsalmValid(%v) holds", p)
		}
		for _, s := range []string{"/xxxxxxxxx|xxxxxxxx//", "x|x", "x|" + strings.Repeat("x", 19), strings.Repeat("/", 16) + "|////", "", "x|"} {
			checkNoChant(t, p, s)
		}
	}
}

func TestP41PsalmValid(t *testing.T) {
	for _, p := range somePsalms() {
		if !impl.PsalmValid(p) {
			t.Errorf("PsalmValid(%s) does not hold", textOfPsalm(p))
		}
	}
	for start := range 6 {
		for middle := range 7 {
			for end := range 7 {
				p := impl.Psalm{Start: repeated(t, "G1", start), Tenor: toneOf(t, "b1"), Middle: repeated(t, "B1", middle), End: repeated(t, "b0", end)}
				is := start <= 3 && middle >= 1 && middle <= 4 && end >= 1 && end <= 4
				if impl.PsalmValid(p) != is || impl.PsalmFits(p, "xxxxxxxxxx|xxxxxxxxxx") != is {
					t.Errorf("PsalmValid of %d, %d and %d tones does not tell %v", start, middle, end, is)
				}
			}
		}
	}
	for _, x := range allTones() {
		if one := []impl.Tone{x}; !impl.PsalmValid(impl.Psalm{Start: one, Tenor: x, Middle: one, End: one}) || impl.PsalmValid(impl.Psalm{Tenor: x}) {
			t.Errorf("PsalmValid does not hold for %v alone, or holds for no Middle and End", x)
		}
	}
}

func TestP42PsalmTenors(t *testing.T) {
	for _, p := range somePsalms() {
		for _, s := range fewVerses() {
			n := impl.PsalmTenors(p, s)
			first, second := halvesOf(s)
			want := len(first) + len(second) - len(p.Start) - len(p.Middle) - len(p.End)
			if !fitsOf(p, s) {
				want = -1
			}
			if n != want {
				t.Errorf("PsalmTenors(%s, %q) = %d; want %d", textOfPsalm(p), s, n, want)
			}
			longer := first + "|x" + second
			if n == -1 || len(longer) > 21 {
				continue
			}
			m, _ := impl.PsalmSing(p, s)
			more, ok := impl.PsalmSing(p, longer)
			if impl.PsalmTenors(p, longer) != n+1 || !ok || len(m) < len(first) || !slices.Equal(more, slices.Insert(m, len(first), p.Tenor)) {
				t.Errorf("PsalmTenors(%s, %q) = %d, the melody is %v", textOfPsalm(p), longer, impl.PsalmTenors(p, longer), more)
			}
		}
	}
}

func TestP42TenorInOtherParts(t *testing.T) {
	for _, c := range []struct {
		p, s   string
		tenors int
	}{
		{"A1 A1:A1:A1:A1", "xxx|x", 0}, {"A1 A1:A1:A1:A1", "xxxx|x", 1}, {"A1 A1:A1:A1:A1", "xxx|xxx", 2}, {"A1 A1:A1:A1:A1", "xx|xxx", -1},
		{":b1:b1 b1:b1", "//|/", 0}, {":b1:b1 b1:b1", "///|//", 2}, {":b1:b1 b1:b1", "/|//////", -1}, {":b1:b1:b1 b1", "//////|/", -1},
	} {
		if n := impl.PsalmTenors(psalmOf(t, c.p), c.s); n != c.tenors {
			t.Errorf("PsalmTenors(%s, %q) = %d; want %d", c.p, c.s, n, c.tenors)
		}
	}
}

func TestP43PsalmFits(t *testing.T) {
	for _, p := range somePsalms() {
		for _, s := range fewVerses() {
			fits := impl.PsalmFits(p, s)
			_, ok := impl.PsalmSing(p, s)
			if fits != fitsOf(p, s) || ok != fits {
				t.Errorf("PsalmFits(%s, %q) = %v, PsalmSing succeeds is %v", textOfPsalm(p), s, fits, ok)
			}
			if fits {
				checkFitsMore(t, p, s)
			}
		}
	}
}

// checkFitsMore is for a psalm tone that fits a verse.
func checkFitsMore(t *testing.T, p impl.Psalm, s string) {
	t.Helper()
	first, second := halvesOf(s)
	for _, syllable := range []string{"x", "/"} {
		if longer := first + syllable + "|" + second + syllable; impl.PsalmFits(p, longer) != (len(longer) <= 21) {
			t.Errorf("PsalmFits(%s, %q) does not tell %v", textOfPsalm(p), longer, len(longer) <= 21)
		}
	}
	bare := p
	bare.Start = nil
	if !impl.PsalmFits(bare, s) {
		t.Errorf("PsalmFits(%s, %q) does not hold", textOfPsalm(bare), s)
	}
	more := p
	more.Middle = append(slices.Clone(p.Middle), p.Tenor)
	if is := len(more.Middle) <= 4 && len(first) > len(p.Start)+len(p.Middle); impl.PsalmFits(more, s) != is {
		t.Errorf("PsalmFits(%s, %q) does not tell %v", textOfPsalm(more), s, is)
	}
}

func TestP43JustFits(t *testing.T) {
	for _, p := range somePsalms() {
		first, second := strings.Repeat("x", len(p.Start)+len(p.Middle)), strings.Repeat("/", len(p.End))
		m, ok := impl.PsalmSing(p, first+"|"+second)
		if !impl.PsalmFits(p, first+"|"+second) || !ok || !slices.Equal(m, slices.Concat(p.Start, p.Middle, p.End)) || impl.PsalmTenors(p, first+"|"+second) != 0 {
			t.Errorf("PsalmSing(%s, %q) = %v, %v", textOfPsalm(p), first+"|"+second, m, ok)
		}
		for _, s := range []string{first[1:] + "|" + second, first + "|" + second[1:], first[1:] + "|" + second + strings.Repeat("x", 9), first + strings.Repeat("x", 9) + "|" + second[1:]} {
			checkNoChant(t, p, s)
		}
	}
}

func TestP44PsalmAccents(t *testing.T) {
	for _, p := range somePsalms() {
		for _, s := range fewVerses() {
			n := impl.PsalmAccents(p, s)
			if !fitsOf(p, s) {
				if n != -1 {
					t.Errorf("PsalmAccents(%s, %q) = %d", textOfPsalm(p), s, n)
				}
				continue
			}
			if n != chantedAccentsOf(p, s) || n > strings.Count(s, "/") || n > len(p.Middle)+len(p.End) {
				t.Errorf("PsalmAccents(%s, %q) = %d; want %d", textOfPsalm(p), s, n, chantedAccentsOf(p, s))
			}
			if weak := strings.ReplaceAll(s, "/", "x"); impl.PsalmAccents(p, weak) != 0 {
				t.Errorf("PsalmAccents(%s, %q) = %d", textOfPsalm(p), weak, impl.PsalmAccents(p, weak))
			}
		}
	}
}

func TestP44PsalmAccentsEdges(t *testing.T) {
	for _, c := range []struct {
		p, s string
		n    int
	}{
		{"F0 G1:A1:C1 A1:G1", "x/xx/x|/x/", 2}, {"F0 G1:A1:C1 A1:G1", "/////x|xxx", 1}, {"F0 G1:A1:C1 A1:G1", "///xx|//x", 0},
		{"F0 G1:A1:C1 A1:G1", "//xx|/", 1}, {"F0 G1:A1:C1 A1:G1", "xx//|x", 2}, {"F0 G1:A1:C1 A1:G1", "xxxx|x", 0}, {"F0 G1:A1:C1 A1:G1", "xx/|/", -1},
		{":A1:C1:G1", "/|/", 2}, {":A1:C1:G1", "/|x", 1}, {":A1:C1:G1", "x|/", 1}, {":A1:C1:G1", "x|x", 0}, {":A1:C1:G1", "xxx|//x", 0}, {":A1:C1:G1", "//x|xx/", 1},
		{"A1:A1:A1 A1 A1 A1:A1 A1 A1 A1", "//////|//////", 8}, {"A1:A1:A1 A1 A1 A1:A1 A1 A1 A1", "xxx///|xxxxxx", 3}, {"A1:A1:A1 A1 A1 A1:A1 A1 A1 A1", "xxxxxx|x/x/x/", 2},
	} {
		if n := impl.PsalmAccents(psalmOf(t, c.p), c.s); n != c.n {
			t.Errorf("PsalmAccents(%s, %q) = %d; want %d", c.p, c.s, n, c.n)
		}
	}
}

// movedPsalmOf finds PsalmMove with movedOf of all tones.
func movedPsalmOf(p impl.Psalm, k int) (impl.Psalm, bool) {
	all, ok := movedOf(slices.Concat(p.Start, []impl.Tone{p.Tenor}, p.Middle, p.End), k)
	if !ok {
		return impl.Psalm{}, false
	}
	tenor := len(p.Start)
	end := len(all) - len(p.End)
	return impl.Psalm{Start: all[:tenor], Tenor: all[tenor], Middle: all[tenor+1 : end], End: all[end:]}, true
}

func TestP45PsalmMove(t *testing.T) {
	succeeded, softened := 0, 0
	for _, p := range somePsalms() {
		for _, k := range nearAndFar() {
			moved, ok := impl.PsalmMove(p, k)
			want, is := movedPsalmOf(p, k)
			if ok != is || !samePsalm(moved, want) {
				t.Errorf("PsalmMove(%s, %d) = %v, %v; want %v, %v", textOfPsalm(p), k, moved, ok, want, is)
				continue
			}
			if !ok {
				continue
			}
			succeeded++
			if strings.Contains(textOfPsalm(moved), "b") {
				softened++
			}
			for _, s := range []string{"x|x", "xx/x|xx/", "xxxx/xx|/xxx", "xxxxxx|xxxx", "xxxx/xx|/xx", "xx/xx/xxxx|xx/x/x/xxx"} {
				checkSungMoved(t, p, moved, s)
			}
		}
	}
	if succeeded < 500 || softened < 200 {
		t.Errorf("only %d moves succeeded, %d of them to Soft tones", succeeded, softened)
	}
}

func checkSungMoved(t *testing.T, p, moved impl.Psalm, s string) {
	t.Helper()
	a, okA := impl.PsalmSing(p, s)
	b, okB := impl.PsalmSing(moved, s)
	if okA != okB || impl.PsalmFits(moved, s) != impl.PsalmFits(p, s) || okA && !impl.MelodySame(a, b) {
		t.Errorf("%q is sung as %v, %v to %s, and as %v, %v to %s", s, a, okA, textOfPsalm(p), b, okB, textOfPsalm(moved))
	}
}

func TestP45PsalmMoveEdges(t *testing.T) {
	for _, c := range []struct {
		from string
		k    int
		want string
	}{
		{"F0 G1:A1:C1 A1:G1", 0, "F0 G1:A1:C1 A1:G1"}, {"F0 G1:A1:C1 A1:G1", 7, "F1 G2:A2:C2 A2:G2"}, {"F0 G1:A1:C1 A1:G1", -7, ""}, {"F0 G1:A1:C1 A1:G1", 14, ""},
		{"F1 G2:A2:C2 A2:G2", -7, "F0 G1:A1:C1 A1:G1"}, {"F0 G1:A1:C1 A1:G1", 4, "C1 D1:E1:G2 E1:D1"}, {"F0 G1:A1:C1 A1:G1", 2, ""}, {"F0 G1:A1:b1 A1:G1", 4, "C1 D1:E1:F1 E1:D1"},
		{"C0 D0:E0:F0 E0:D0", 3, "F0 G1:A1:b1 A1:G1"}, {"G1 A1:B1:C1 B1:A1", -1, "F0 G1:A1:b1 A1:G1"}, {"F0 G1:A1:b1 A1:G1", 1, "G1 A1:B1:C1 B1:A1"},
		{":D0:E0:F0", 4, ":A1:B1:C1"}, {":D0:E0:D0", 3, ":G1:A1:G1"}, {":A1:B1:C1", -4, ":D0:E0:F0"},
		// The first tone, of Start or the Tenor, tells which of two melodies it is.
		{":b1:b1:b1", 0, ":B1:B1:B1"}, {"b1:b1:b1 b1:b1", 7, "B2:B2:B2 B2:B2"}, {":b1:b1:B1", 0, ":b1:b1:B1"}, {":b1:B1:b1", 7, ":b2:B2:b2"}, {"B1:b1:b1:b1", -7, "B0:b0:b0:b0"},
		{"b1:B1:b1:b1", 0, "b1:B1:b1:b1"}, {":B1:b1:B1", 0, ":B1:b1:B1"}, {":b1:A1:b1", 0, ":b1:A1:b1"}, {":b1:b1:A1", 7, ":b2:b2:A2"}, {"A1:b1:B1:b1", -7, "A0:b0:B0:b0"}, {":B1:B1:B1", 1, ":C1:C1:C1"},
		{":C1:C1:C1", -1, ":B1:B1:B1"}, {":G0:F2:G0", 0, ":G0:F2:G0"}, {":G0:F2:G0", 1, ""}, {":G0:F2:G0", -1, ""}, {":G0:G0:G0", 20, ":F2:F2:F2"}, {":F2:F2:F2", -20, ":G0:G0:G0"}, {":G0:G0:G0", 21, ""},
		{":G0:G0:G0", -1, ""}, {":F2:F2:F2", 1, ""}, {"E2:C1:C1:C1", 2, ""}, {":C1:C1 E2:C1", 2, ""}, {":C1:C1:C1 E2", 2, ""},
	} {
		moved, ok := impl.PsalmMove(psalmOf(t, c.from), c.k)
		want := impl.Psalm{}
		if c.want != "" {
			want = psalmOf(t, c.want)
		}
		if ok != (c.want != "") || !samePsalm(moved, want) {
			t.Errorf("PsalmMove(%s, %d) = %v, %v; want %q", c.from, c.k, moved, ok, c.want)
		}
	}
}

func TestP45PsalmMoveByOctaves(t *testing.T) {
	p := psalmOf(t, "F0 G1 A1:C1:b1 B1 A1 b1:B1 A1 G1 F0")
	moved, ok := impl.PsalmMove(p, 7)
	if !ok || textOfPsalm(moved) != "F1 G2 A2:C2:b2 B2 A2 b2:B2 A2 G2 F1" {
		t.Errorf("PsalmMove by an octave = %v, %v", moved, ok)
	}
	if back, ok := impl.PsalmMove(moved, -7); !ok || !samePsalm(back, p) {
		t.Errorf("PsalmMove back by an octave = %v, %v", back, ok)
	}
}

func TestP45PsalmMoveInvalid(t *testing.T) {
	for _, p := range badPsalms(t) {
		for _, k := range []int{0, 1, -1, 7, -7, 21, -21} {
			if moved, ok := impl.PsalmMove(p, k); ok || !samePsalm(moved, impl.Psalm{}) {
				t.Errorf("PsalmMove(%v, %d) = %v, %v", p, k, moved, ok)
			}
		}
	}
}

// drawnPsalms are lists of psalm tones, always the same ones, among which many have as many accents.
func drawnPsalms() [][]impl.Psalm {
	r := rand.New(rand.NewPCG(4, 46))
	all := somePsalms()
	list := [][]impl.Psalm{}
	for n := range 9 {
		for range 8 {
			psalms := []impl.Psalm{}
			for range n {
				psalms = append(psalms, all[r.IntN(len(all))])
			}
			list = append(list, psalms)
		}
	}
	return append(list, all)
}

func TestP46PsalmBest(t *testing.T) {
	succeeded, tied := 0, 0
	for _, list := range drawnPsalms() {
		for _, s := range fewVerses() {
			fitting := []int{}
			for i, p := range list {
				if fitsOf(p, s) {
					fitting = append(fitting, i)
				}
			}
			best, ok := impl.PsalmBest(list, s)
			if len(fitting) == 0 {
				if ok || best != 0 {
					t.Errorf("PsalmBest(%v, %q) = %d, %v", list, s, best, ok)
				}
				continue
			}
			// SortStableFunc keeps the first one of those with as many accents ahead.
			slices.SortStableFunc(fitting, func(i, k int) int { return chantedAccentsOf(list[k], s) - chantedAccentsOf(list[i], s) })
			if !ok || best != fitting[0] {
				t.Errorf("PsalmBest(%v, %q) = %d, %v; want %d", list, s, best, ok, fitting[0])
			}
			succeeded++
			if len(fitting) > 1 && chantedAccentsOf(list[fitting[0]], s) == chantedAccentsOf(list[fitting[1]], s) {
				tied++
			}
		}
	}
	if succeeded < 2000 || tied < 500 {
		t.Errorf("only %d lists had a best psalm tone, %d of them several", succeeded, tied)
	}
}

func TestP46PsalmBestEdges(t *testing.T) {
	one, two, wide := psalmOf(t, ":A1:C1:G1"), psalmOf(t, ":A1:C1 A1:G1"), psalmOf(t, "F0 G1 A1:A1:C1 C1 C1 C1:G1 G1 G1 G1")
	for _, c := range []struct {
		list []impl.Psalm
		s    string
		best int
		ok   bool
	}{
		{nil, "x|x", 0, false}, {[]impl.Psalm{}, "//|//", 0, false},
		{[]impl.Psalm{one}, "x|x", 0, true}, {[]impl.Psalm{one}, "/|/", 0, true}, {[]impl.Psalm{two}, "/|/", 0, false}, {[]impl.Psalm{two, wide, two}, "/|/", 0, false},
		{[]impl.Psalm{two, one}, "/|/", 1, true}, {[]impl.Psalm{two, one}, "x|x", 1, true}, {[]impl.Psalm{wide, two, one}, "xxx|xxx", 1, true}, {[]impl.Psalm{wide, one, two, one}, "xxx|xxx", 1, true},
		{[]impl.Psalm{one, two}, "//|x", 1, true}, {[]impl.Psalm{two, one}, "//|x", 0, true}, {[]impl.Psalm{one, two}, "x/|x", 0, true}, {[]impl.Psalm{two, one}, "x/|x", 0, true},
		{[]impl.Psalm{one, one, two, two, one}, "//|/", 2, true}, {[]impl.Psalm{one, two, wide}, "///////|////", 2, true}, {[]impl.Psalm{one, two, wide, wide}, "///xxxx|xxxx", 0, true},
		{[]impl.Psalm{wide, one, two}, "//|/", 2, true}, {[]impl.Psalm{one, two, wide}, "xxxx//x|xx/x", 2, true},
	} {
		if best, ok := impl.PsalmBest(c.list, c.s); best != c.best || ok != c.ok {
			t.Errorf("PsalmBest(%v, %q) = %d, %v; want %d", c.list, c.s, best, ok, c.best)
		}
	}
}

func TestP46PsalmBestInvalid(t *testing.T) {
	one := psalmOf(t, ":A1:C1:G1")
	for _, bad := range badPsalms(t) {
		for i := range 4 {
			list := []impl.Psalm{one, one, one}
			list = slices.Insert(list, i, bad)
			for _, s := range []string{"x|/", "/xxxxxxxxx|xxxxxxxxx/", "", "x|"} {
				if best, ok := impl.PsalmBest(list, s); ok || best != 0 {
					t.Errorf("PsalmBest with %v at %d, %q = %d, %v", bad, i, s, best, ok)
				}
			}
		}
		if best, ok := impl.PsalmBest([]impl.Psalm{bad}, "x|x"); ok || best != 0 {
			t.Errorf("PsalmBest of %v alone = %d, %v", bad, best, ok)
		}
	}
	for _, s := range noVerses() {
		for _, list := range [][]impl.Psalm{nil, {one}, {one, one}} {
			if best, ok := impl.PsalmBest(list, s); ok || best != 0 {
				t.Errorf("PsalmBest(%v, %.60q) = %d, %v", list, s, best, ok)
			}
		}
	}
}

// readersOf is how many psalm tones sing a verse with a melody, made without the program's own functions.
func readersOf(list []impl.Psalm, s string, m []impl.Tone) int {
	n := 0
	for _, p := range list {
		if fitsOf(p, s) && slices.Equal(sungOf(p, s), m) {
			n++
		}
	}
	return n
}

func TestP47PsalmRead(t *testing.T) {
	for _, list := range drawnPsalms() {
		for k, s := range fewVerses() {
			if len(list) == 0 {
				checkRead(t, list, s, tonesOf(t, "C1 G1"))
				continue
			}
			p := list[k%len(list)]
			if !fitsOf(p, s) {
				continue
			}
			m, _ := impl.PsalmSing(p, s)
			if n := impl.PsalmRead(list, s, m); n < 1 || n > len(list) {
				t.Errorf("PsalmRead(%v, %q, %s) = %d", list, s, textOf(m), n)
			}
			checkRead(t, list, s, m)
			for _, x := range []impl.Tone{p.Tenor, p.End[0], {Step: 2, Soft: true}} {
				if n := impl.PsalmRead(list, s, append(slices.Clone(m), x)); n != 0 {
					t.Errorf("PsalmRead(%v, %q, %s and one tone more) = %d", list, s, textOf(m), n)
				}
				checkRead(t, list, s, replaced(m, k%len(m), x))
			}
			checkRead(t, list, s, m[:len(m)-1])
			checkRead(t, list, s, m[1:])
			checkRead(t, list, s, nil)
			checkRead(t, list, s, slices.Repeat(m[:1], 24))
		}
	}
}

func checkRead(t *testing.T, list []impl.Psalm, s string, m []impl.Tone) {
	t.Helper()
	if n := impl.PsalmRead(list, s, m); n != readersOf(list, s, m) {
		t.Errorf("PsalmRead(%v, %q, %v) = %d; want %d", list, s, m, n, readersOf(list, s, m))
	}
}

func TestP47SeveralSingOneMelody(t *testing.T) {
	list := []impl.Psalm{}
	for _, text := range []string{":A1:C1 A1:G1", "A1:A1:C1 A1:G1", "A1 A1:A1:C1 A1:G1", "A1:A1:A1 C1 A1:A1 G1", "A1 A1:F0:C1 A1:A1 G1", "A1 A1 C1:A1:A1:G1", ":A1:C1 A1:A1 G1", ":A1:A1 A1 C1 A1:A1 G1", ":A1:C1 A1:G1", ":A2:C2 A2:G2", "A1 A1 A1:A1:C1 A1:G1", ":A1:C1:G1", ":A1:C1 A1:b1"} {
		list = append(list, psalmOf(t, text))
	}
	for _, c := range []struct {
		s, m string
		n    int
	}{
		{"xxxx|xx", "A1 A1 C1 A1 A1 G1", 9}, {"////|//", "A1 A1 C1 A1 A1 G1", 9}, {"xxxx|xx", "A2 A2 C2 A2 A2 G2", 1}, {"xxxx|xx", "A1 A1 C1 A1 A1 b1", 1}, {"xxxx|xx", "A1 A1 C1 A1 A1 B1", 0},
		{"xxxx|xx", "A1 A1 A1 C1 A1 G1", 1}, {"xxx|xx", "A1 C1 A1 A1 G1", 4}, {"xx|xx", "C1 A1 A1 G1", 3}, {"xx|x", "C1 A1 G1", 2}, {"x|x", "C1 G1", 1}, {"x|x", "C1 A1", 0}, {"x|x", "G1 C1", 0},
		{"xx|xx", "A1 C1 A1 G1", 1}, {"xxxx|xx", "", 0}, {"xxxx|xx", "A1 A1 C1 A1 A1", 0}, {"xxxx|xx", "A1 A1 C1 A1 A1 G1 G1", 0}, {"xxx|xxx", "A1 A1 C1 A1 A1 G1", 1},
		{"xxxxx|xx", "A1 A1 A1 C1 A1 A1 G1", 8}, {"xxxxx|xx", "A1 A1 F0 C1 A1 A1 G1", 1},
	} {
		m := tonesOf(t, c.m)
		if n := impl.PsalmRead(list, c.s, m); n != c.n || n != readersOf(list, c.s, m) {
			t.Errorf("PsalmRead(%q, %s) = %d; want %d or %d", c.s, c.m, n, c.n, readersOf(list, c.s, m))
		}
		if n := impl.PsalmRead(nil, c.s, m); n != 0 {
			t.Errorf("PsalmRead(no psalm tones, %q, %s) = %d", c.s, c.m, n)
		}
	}
}

func TestP47PsalmReadInvalid(t *testing.T) {
	one := psalmOf(t, ":A1:C1:G1")
	m := tonesOf(t, "C1 G1")
	for _, list := range [][]impl.Psalm{nil, {one}, {one, one}} {
		for _, s := range noVerses() {
			if n := impl.PsalmRead(list, s, m); n != -1 {
				t.Errorf("PsalmRead(%v, %.60q, C1 G1) = %d", list, s, n)
			}
		}
		for _, bad := range noMelodies(t) {
			if n := impl.PsalmRead(list, "x|x", bad); n != -1 {
				t.Errorf("PsalmRead(%v, x|x, %v) = %d", list, bad, n)
			}
		}
	}
	for _, bad := range badPsalms(t) {
		for i := range 4 {
			list := slices.Insert([]impl.Psalm{one, one, one}, i, bad)
			for _, sung := range [][]impl.Tone{m, nil, repeated(t, "C1", 20)} {
				if n := impl.PsalmRead(list, "x|x", sung); n != -1 {
					t.Errorf("PsalmRead with %v at %d, x|x, %s = %d", bad, i, textOf(sung), n)
				}
			}
		}
		if n := impl.PsalmRead([]impl.Psalm{bad}, "/|x", nil); n != -1 {
			t.Errorf("PsalmRead of %v alone = %d", bad, n)
		}
	}
}

// sparePsalm is a copy of a psalm tone whose parts have room behind them.
func sparePsalm(p impl.Psalm) impl.Psalm {
	return impl.Psalm{Start: spare(p.Start), Tenor: p.Tenor, Middle: spare(p.Middle), End: spare(p.End)}
}

// onePiece is a copy of a psalm tone whose parts are one behind the other in the same memory, so that what is put behind one of them changes the next one.
func onePiece(p impl.Psalm) impl.Psalm {
	all := slices.Concat(p.Start, p.Middle, p.End)
	middle, end := len(p.Start), len(p.Start)+len(p.Middle)
	return impl.Psalm{Start: all[:middle], Tenor: p.Tenor, Middle: all[middle:end], End: all[end:]}
}

func TestPsalmResultsAreNewMemory(t *testing.T) {
	for _, text := range []string{":A1:C1:G1", "F0:A1:C1 A1:G1", "F0 G1 A1:A1:C1 b1 A1 G1:A1 G1 F0 E0"} {
		for _, k := range []int{0, 7} {
			p := sparePsalm(psalmOf(t, text))
			for _, s := range []string{strings.Repeat("x", len(p.Start)+len(p.Middle)) + "|" + strings.Repeat("/", len(p.End)), "xxxxxxxxxx|//////////"} {
				for _, part := range [][]impl.Tone{p.Start, p.Middle, p.End} {
					m, _ := impl.PsalmSing(p, s)
					checkApart(t, "PsalmSing", m, part, noTone)
				}
			}
			for _, part := range [][]impl.Tone{p.Start, p.Middle, p.End} {
				moved, _ := impl.PsalmMove(p, k)
				checkApart(t, "PsalmMove", moved.Start, part, noTone)
				checkApart(t, "PsalmMove", moved.Middle, part, noTone)
				checkApart(t, "PsalmMove", moved.End, part, noTone)
			}
			moved, _ := impl.PsalmMove(p, k)
			checkApart(t, "PsalmMove", moved.Start, moved.Middle, noTone)
			checkApart(t, "PsalmMove", moved.Start, moved.End, noTone)
			checkApart(t, "PsalmMove", moved.Middle, moved.End, noTone)
			moved, _ = impl.PsalmMove(p, k)
			checkApart(t, "PsalmMove", moved.End, moved.Middle, noTone)
			checkApart(t, "PsalmMove", moved.Middle, moved.Start, noTone)
		}
	}
	accents := impl.VerseAccents("x/|/x")
	checkApart(t, "VerseAccents", accents, impl.VerseAccents("x/|/x"), -9)
}

func TestPsalmArgumentsStay(t *testing.T) {
	for _, p := range somePsalms() {
		q, one, m := sparePsalm(p), onePiece(p), tonesOf(t, "C1 A1 G1")
		list := []impl.Psalm{q, one}
		for _, s := range []string{"xxxxxxx|xxxx", "/xxxx/xxxx|xxxx/xxx//", "x|x", "x|"} {
			for _, x := range list {
				impl.PsalmFits(x, s)
				impl.PsalmSing(x, s)
				impl.PsalmTenors(x, s)
				impl.PsalmAccents(x, s)
			}
			impl.PsalmBest(list, s)
			impl.PsalmRead(list, s, m)
		}
		for _, k := range []int{0, 1, -1, 7, -7, 21} {
			impl.PsalmMove(q, k)
			impl.PsalmMove(one, k)
		}
		if !samePsalm(q, p) || !samePsalm(one, p) || !samePsalm(list[0], p) || !samePsalm(list[1], p) || textOf(m) != "C1 A1 G1" {
			t.Errorf("the arguments %s have become %v, %v and %v", textOfPsalm(p), q, one, m)
		}
		for _, part := range [][]impl.Tone{q.Start, q.Middle, q.End} {
			if slices.ContainsFunc(part[len(part):cap(part)], func(x impl.Tone) bool { return x != impl.Tone{} }) {
				t.Errorf("there is something behind a part of %s", textOfPsalm(p))
			}
		}
	}
}
