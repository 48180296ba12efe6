package tests

import (
	"slices"
	"strings"
	"testing"

	"loop.example/neumes/impl"
)

func TestP38VerseHalves(t *testing.T) {
	for _, s := range someVerses() {
		first, second, ok := impl.VerseHalves(s)
		a, b := halvesOf(s)
		if !ok || first != a || second != b || !impl.VerseValid(s) {
			t.Errorf("VerseHalves(%q) = %q, %q, %v", s, first, second, ok)
		}
		n := impl.VerseSyllables(s)
		if n != len(s)-1 || n != len(first)+len(second) || n > 20 || first+"|"+second != s {
			t.Errorf("VerseSyllables(%q) = %d, the halves are %q and %q", s, n, first, second)
		}
		if other := second + "|" + first; !impl.VerseValid(other) || impl.VerseSyllables(other) != n {
			t.Errorf("VerseSyllables(%q) = %d; want %d as exchanged", other, impl.VerseSyllables(other), n)
		}
	}
}

func TestP38VerseEdges(t *testing.T) {
	for _, c := range []struct {
		s             string
		syllables     int
		first, second string
	}{
		{"x|x", 2, "x", "x"}, {"/|/", 2, "/", "/"}, {"x|/", 2, "x", "/"}, {"x/xx/x|/x/", 9, "x/xx/x", "/x/"},
		{strings.Repeat("x", 19) + "|/", 20, strings.Repeat("x", 19), "/"}, {"/|" + strings.Repeat("x", 19), 20, "/", strings.Repeat("x", 19)},
		{strings.Repeat("x", 20) + "|/", -1, "", ""}, {"/|" + strings.Repeat("x", 20), -1, "", ""}, {strings.Repeat("x/", 5) + "|" + strings.Repeat("/x", 5), 20, "x/x/x/x/x/", "/x/x/x/x/x"},
		{"x|", -1, "", ""}, {"|x", -1, "", ""}, {"|", -1, "", ""}, {"", -1, "", ""}, {"xx", -1, "", ""}, {"x||x", -1, "", ""}, {"x|x|x", -1, "", ""}, {"x|x ", -1, "", ""}, {"x\\|x", -1, "", ""},
	} {
		first, second, ok := impl.VerseHalves(c.s)
		if n := impl.VerseSyllables(c.s); n != c.syllables || first != c.first || second != c.second || ok != (c.syllables > 0) || impl.VerseValid(c.s) != ok {
			t.Errorf("VerseSyllables(%q) = %d, VerseHalves are %q, %q, %v", c.s, n, first, second, ok)
		}
	}
}

func TestP38NoVerse(t *testing.T) {
	for _, s := range noVerses() {
		first, second, ok := impl.VerseHalves(s)
		if n := impl.VerseSyllables(s); impl.VerseValid(s) || n != -1 || ok || first != "" || second != "" {
			t.Errorf("VerseSyllables(%.60q) = %d, VerseHalves are %.60q, %.60q, %v", s, n, first, second, ok)
		}
	}
}

func TestP38VerseMax(t *testing.T) {
	for first := 1; first <= 20; first++ {
		a, b := strings.Repeat("x", first), strings.Repeat("/", 20-first)
		if is := first < 20; impl.VerseValid(a+"|"+b) != is || impl.VerseValid(b+"|"+a) != is {
			t.Errorf("VerseValid does not tell that %q and %q are 20 syllables", a, b)
		}
		if impl.VerseValid(a+"x|"+b) || impl.VerseValid(a+"|"+b+"x") {
			t.Errorf("VerseValid holds for %q and %q and one syllable more", a, b)
		}
	}
}

// accentsOf are the indexes of the accents, made without the program's own functions.
func accentsOf(s string) []int {
	first, second := halvesOf(s)
	list := []int{}
	for i, syllable := range first + second {
		if syllable == '/' {
			list = append(list, i)
		}
	}
	return list
}

func TestP39VerseAccents(t *testing.T) {
	for _, s := range someVerses() {
		accents := impl.VerseAccents(s)
		if !slices.Equal(accents, accentsOf(s)) {
			t.Errorf("VerseAccents(%q) = %v", s, accents)
		}
		first, second := halvesOf(s)
		_, behind, ok := impl.VerseEnds(s)
		if len(accents) == 0 || accents[len(accents)-1] < len(first) {
			continue // no accent in the second half
		}
		if last := accents[len(accents)-1]; !ok || behind != len(first)+len(second)-1-last {
			t.Errorf("VerseEnds(%q) tells of %d syllables behind the accent %d", s, behind, last)
		}
	}
}

func TestP39VerseEnds(t *testing.T) {
	for _, s := range someVerses() {
		first, second := halvesOf(s)
		a, b, ok := impl.VerseEnds(s)
		if !ok || a != len(first)-len(strings.TrimRight(first, "x")) || b != len(second)-len(strings.TrimRight(second, "x")) {
			t.Errorf("VerseEnds(%q) = %d, %d, %v", s, a, b, ok)
		}
	}
}

func TestP39HalvesWithoutAccents(t *testing.T) {
	for _, c := range []struct {
		s       string
		accents []int
		a, b    int
	}{
		{"x|x", nil, 1, 1}, {"xxx|xx", nil, 3, 2}, {"/|x", []int{0}, 0, 1}, {"x|/", []int{1}, 1, 0}, {"/|/", []int{0, 1}, 0, 0},
		{"xxxx|x/x", []int{5}, 4, 1}, {"x/xx|xxxxx", []int{1}, 2, 5}, {"/xx|/xxx", []int{0, 3}, 2, 3}, {"xx/|xx/", []int{2, 5}, 0, 0},
		{"x/xx/x|/x/", []int{1, 4, 6, 8}, 1, 0}, {"//|xx", []int{0, 1}, 0, 2}, {"xx|//", []int{2, 3}, 2, 0},
		{"x|" + strings.Repeat("x", 19), nil, 1, 19}, {strings.Repeat("x", 19) + "|/", []int{19}, 19, 0},
	} {
		accents := impl.VerseAccents(c.s)
		if a, b, ok := impl.VerseEnds(c.s); !slices.Equal(accents, c.accents) || a != c.a || b != c.b || !ok {
			t.Errorf("VerseAccents(%q) = %v, VerseEnds are %d, %d, %v", c.s, accents, a, b, ok)
		}
	}
}

func TestP39NoVerse(t *testing.T) {
	for _, s := range noVerses() {
		accents := impl.VerseAccents(s)
		if a, b, ok := impl.VerseEnds(s); len(accents) != 0 || a != 0 || b != 0 || ok {
			t.Errorf("VerseAccents(%.60q) = %v, VerseEnds are %d, %d, %v", s, accents, a, b, ok)
		}
	}
}

// gapOf is the greatest gap, made without the program's own functions.
func gapOf(s string) int {
	n := 0
	for strings.Contains(s, strings.Repeat("x", n+1)) {
		n++
	}
	return n
}

func TestP40VerseGap(t *testing.T) {
	for _, s := range someVerses() {
		gap := impl.VerseGap(s)
		a, b, _ := impl.VerseEnds(s)
		first, second := halvesOf(s)
		if gap != gapOf(s) || gap < max(a, b) || gap > max(len(first), len(second)) {
			t.Errorf("VerseGap(%q) = %d, VerseEnds are %d and %d", s, gap, a, b)
		}
		longer := impl.VerseGap(s + "x")
		if len(first)+len(second) == 20 {
			if longer != -1 {
				t.Errorf("VerseGap(%q) = %d", s+"x", longer)
			}
		} else if longer != gap && longer != gap+1 || longer != max(gap, b+1) {
			t.Errorf("VerseGap(%q) = %d, with a weak syllable behind it is %d", s, gap, longer)
		}
	}
}

func TestP40VerseGapEdges(t *testing.T) {
	for _, c := range []struct {
		s   string
		gap int
	}{
		{"x|x", 1}, {"/|/", 0}, {"x|/", 1}, {"/|x", 1}, {"//|///", 0}, {"xxx|xx", 3}, {"xx|xxx", 3},
		{"/xx|xx/", 2}, {"/xx|x/", 2}, {"/x|xx/", 2}, {"x/x|x/x", 1}, {"xx/x|x/", 2}, {"/x/xxx/|x", 3}, {"x/xx/x|/x/", 2},
		{strings.Repeat("x", 10) + "|" + strings.Repeat("x", 10), 10}, {strings.Repeat("x", 19) + "|x", 19}, {"/|" + strings.Repeat("x", 19), 19}, {"x|" + strings.Repeat("x", 20), -1},
	} {
		if gap := impl.VerseGap(c.s); gap != c.gap {
			t.Errorf("VerseGap(%q) = %d; want %d", c.s, gap, c.gap)
		}
	}
}

func TestP40NoVerse(t *testing.T) {
	for _, s := range noVerses() {
		if gap := impl.VerseGap(s); gap != -1 {
			t.Errorf("VerseGap(%.60q) = %d", s, gap)
		}
	}
}
