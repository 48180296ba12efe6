package tests

import (
	"slices"
	"strings"
	"testing"

	"loop.example/neumes/impl"
)

func TestP72BooksFar(t *testing.T) {
	numbers := map[int]int{}
	for _, books := range someBooks() {
		for i, a := range books {
			for k, b := range books {
				far := impl.BooksFar(books, i, k)
				if far != farOf(a, b) || impl.BooksFar(books, k, i) != far || (far == 0) != (a == b) {
					t.Errorf("BooksFar(%q, %d, %d) = %d, and exchanged %d", books, i, k, far, impl.BooksFar(books, k, i))
				}
				numbers[far]++
				for third := range books {
					if over := impl.BooksFar(books, i, third) + impl.BooksFar(books, third, k); far > over {
						t.Errorf("BooksFar(%q, %d, %d) = %d, but over %d it is %d", books, i, k, far, third, over)
					}
				}
			}
			for _, bad := range append(outOf(len(books)-1), 255, 256, 1<<32+1) {
				if far := impl.BooksFar(books, i, bad); far != -1 || impl.BooksFar(books, bad, i) != -1 || impl.BooksFar(books, bad, bad) != -1 {
					t.Errorf("BooksFar(%q, %d, %d) = %d, and exchanged %d", books, i, bad, far, impl.BooksFar(books, bad, i))
				}
			}
		}
	}
	for far := range 9 {
		if numbers[far] < 2 {
			t.Errorf("too few manuscripts differ at %d places: %v", far, numbers)
		}
	}
}

func TestP72BooksValid(t *testing.T) {
	for _, books := range append(someBooks(), []string{"a"}, []string{"d"}, []string{"abcdabcd"}, slices.Repeat([]string{"abcdabcd"}, 6), slices.Repeat([]string{"c"}, 6)) {
		if !impl.BooksValid(books) {
			t.Errorf("BooksValid(%q) does not hold", books)
		}
		for bits := 1; bits < 1<<len(books); bits++ {
			checkNotWhole(t, withLost(books, bits))
		}
	}
	for _, books := range noBooks() {
		checkNotWhole(t, books)
	}
}

func TestP73BooksCommon(t *testing.T) {
	for _, books := range someBooks() {
		text, ok := impl.BooksCommon(books)
		if want := commonOf(books); !ok || text != want {
			t.Errorf("BooksCommon(%q) = %q, %v; want %q", books, text, ok, want)
			continue
		}
		sum := 0
		for _, s := range books {
			sum += farOf(text, s)
		}
		for i, s := range books {
			other := 0
			for k := range books {
				other += impl.BooksFar(books, i, k)
			}
			if sum > other {
				t.Errorf("BooksCommon(%q) = %q differs at %d places, but %q at %d", books, text, sum, s, other)
			}
			if all, ok := impl.BooksCommon(slices.Repeat([]string{s}, len(books))); !ok || all != s {
				t.Errorf("BooksCommon of %d times %q = %q, %v", len(books), s, all, ok)
			}
		}
	}
}

func TestP73BooksCommonEdges(t *testing.T) {
	for _, c := range []struct{ books, want string }{
		{"d", "d"}, {"abcdabcd", "abcdabcd"}, {"aab acb acd", "acb"},
		// As many manuscripts have two letters, or three, or each another one.
		{"b a", "a"}, {"a b", "a"}, {"d c", "c"}, {"d c b", "b"}, {"d c b a", "a"}, {"a b b a", "a"}, {"d d c c", "c"}, {"c d d c b", "c"}, {"d d c c b b", "b"}, {"d c d c a", "c"}, {"d d c c b a", "c"}, {"d d d c c a", "d"}, {"d d d a a a", "a"}, {"d d d a b c", "d"},
		{"ab ba", "aa"}, {"dcba abcd", "abba"}, {"dd dc cd", "dd"}, {"abcd bcda cdab", "abaa"}, {"aaaa bbbb bbbb", "bbbb"}, {"abcdabcd abcdabcc", "abcdabcc"},
	} {
		if text, ok := impl.BooksCommon(strings.Fields(c.books)); !ok || text != c.want {
			t.Errorf("BooksCommon of %s = %q, %v; want %q", c.books, text, ok, c.want)
		}
	}
}

func TestP74StemChanges(t *testing.T) {
	whole, lost := 0, 0
	for _, c := range stemCases() {
		changes := impl.StemChanges(c.books, c.stem)
		if !impl.StemValid(c.books, c.stem) {
			t.Errorf("StemValid(%q, %v) does not hold", c.books, c.stem)
		}
		if !isWhole(c.books) {
			lost++
			if changes != -1 {
				t.Errorf("StemChanges(%q, %v) = %d", c.books, c.stem, changes)
			}
			continue
		}
		whole++
		best, _ := impl.StemBest(c.books)
		if changes != changesOf(c.books, c.stem) || impl.StemFewest(c.books, c.stem) != changes || impl.StemChanges(c.books, best) > changes || len(best) != len(c.books) {
			t.Errorf("StemChanges(%q, %v) = %d, StemFewest is %d, and the best one is %v", c.books, c.stem, changes, impl.StemFewest(c.books, c.stem), best)
		}
		if filled, ok := impl.StemFill(c.books, c.stem); !ok || !slices.Equal(filled, c.books) {
			t.Errorf("StemFill(%q, %v) = %q, %v", c.books, c.stem, filled, ok)
		}
	}
	if whole < 500 || lost < 5000 {
		t.Errorf("there are just %d stems without and %d with lost manuscripts", whole, lost)
	}
}

// TestP74InvalidStems checks all functions of stems, as none of them takes other lists.
func TestP74InvalidStems(t *testing.T) {
	full := []string{"abcdabcd", "bbcdabcd", "cbcdabcd", "dbcdabcd", "abcdabca", "abcdabcb"}
	for n := 1; n <= 6; n++ {
		books := full[:n]
		for _, stem := range noStems(n) {
			checkNoStem(t, books, stem)
			if n > 1 {
				checkNoStem(t, withLost(books, 1), stem)
				checkNoStem(t, withLost(books, 1<<(n-1)), stem)
			}
		}
		for _, stem := range stemsOf(n) {
			checkNoStem(t, withLost(books, 1<<n-1), stem)
			for bits := range 1<<n - 1 {
				if !impl.StemValid(withLost(books, bits), stem) {
					t.Errorf("StemValid(%q, %v) does not hold", withLost(books, bits), stem)
				}
			}
		}
	}
	for _, books := range noBooks() {
		if n := len(books); n >= 1 && n <= 6 {
			for _, stem := range stemsOf(n) {
				checkNoStem(t, books, stem)
			}
		}
		checkNoStem(t, books, append([]int{-1}, make([]int, max(1, len(books))-1)...))
		checkNoStem(t, books, nil)
	}
}

func TestP75StemFill(t *testing.T) {
	for _, c := range stemCases() {
		want, fewest := filledOf(c.books, c.stem)
		filled, ok := impl.StemFill(c.books, c.stem)
		if !ok || !slices.Equal(filled, want) {
			t.Errorf("StemFill(%q, %v) = %q, %v; want %q", c.books, c.stem, filled, ok, want)
			continue
		}
		if got := impl.StemFewest(c.books, c.stem); got != fewest || impl.StemChanges(filled, c.stem) != fewest {
			t.Errorf("StemFewest(%q, %v) = %d, and StemChanges of %q is %d; want %d", c.books, c.stem, got, filled, impl.StemChanges(filled, c.stem), fewest)
		}
		for i, s := range c.books {
			if lost := s[0] == '?'; !lost && filled[i] != s || lost && !isBook(filled[i]) {
				t.Errorf("StemFill(%q, %v) = %q", c.books, c.stem, filled)
			} else if lost {
				checkOtherLetters(t, filled, c.stem, i, fewest)
			}
		}
	}
}

// checkOtherLetters changes each letter of a manuscript that was lost.
func checkOtherLetters(t *testing.T, filled []string, stem []int, i, fewest int) {
	t.Helper()
	for place := range filled[i] {
		for _, letter := range []string{"a", "b", "c", "d"} {
			other := replaced(filled, i, filled[i][:place]+letter+filled[i][place+1:])
			if changes := impl.StemChanges(other, stem); changes < fewest {
				t.Errorf("StemChanges(%q, %v) = %d, but %q was filled, with %d", other, stem, changes, filled, fewest)
			}
		}
	}
}

func TestP75StemFillEdges(t *testing.T) {
	for _, c := range []struct {
		books, stem, want string
		fewest            int
	}{
		{"aab ??? acb acd", "-1 0 1 1", "aab acb acb acd", 2},
		// The first one is lost, with one copy, with several ones, and with lost ones.
		{"? d", "-1 0", "d d", 0}, {"? d c", "-1 0 0", "c d c", 1}, {"? d c d", "-1 0 0 0", "d d c d", 1}, {"? ? d", "-1 0 1", "d d d", 0}, {"? ? d c", "-1 0 1 0", "c c d c", 1}, {"? ? d c", "-1 0 0 1", "c c d c", 1}, {"? d ? c", "-1 0 0 2", "c d c c", 1}, {"? ? ? d c", "-1 0 0 1 2", "c c c d c", 1},
		// The last one is lost, which has no copies.
		{"d ?", "-1 0", "d d", 0}, {"d c ?", "-1 0 1", "d c c", 1}, {"d c ?", "-1 0 0", "d c d", 1},
		// A middle one is lost, with no copies, with one copy, with several ones, and with lost ones.
		{"d ? c", "-1 0 0", "d d c", 1}, {"d ? c", "-1 0 1", "d c c", 1}, {"c ? d", "-1 0 1", "c c d", 1}, {"d ? c c", "-1 0 1 1", "d c c c", 1}, {"d ? c b", "-1 0 1 1", "d b c b", 2}, {"d ? c d", "-1 0 1 1", "d d c d", 1}, {"d ? ? c", "-1 0 1 2", "d c c c", 1}, {"a ? ? c", "-1 0 1 2", "a a a c", 1}, {"c ? ? a", "-1 0 1 2", "c a a a", 1}, {"d ? ? ? c", "-1 0 1 1 3", "d c c c c", 1}, {"a ? ? ? c", "-1 0 1 1 3", "a a a a c", 1}, {"b ? ? c c", "-1 0 1 2 2", "b b c c c", 1}, {"c ? ? b b", "-1 0 1 2 2", "c b b b b", 1},
		{"a ? b c d", "-1 0 1 1 1", "a a b c d", 3}, {"d ? c b a", "-1 0 1 1 1", "d a c b a", 3}, {"d ? c c a a", "-1 0 1 1 1 1", "d a c c a a", 3}, {"a ? b b d d", "-1 0 1 1 1 1", "a b b b d d", 3},
		// All but one are lost.
		{"d ? ? ? ? ?", "-1 0 1 2 3 4", "d d d d d d", 0}, {"? ? ? ? ? d", "-1 0 1 2 3 4", "d d d d d d", 0}, {"? ? ? d ? ?", "-1 0 0 1 2 3", "d d d d d d", 0}, {"?? ?? ?? ?? ?? ca", "-1 0 0 0 0 0", "ca ca ca ca ca ca", 0},
		// The first letter, or only a later one, tells which way is meant, at each place for itself.
		{"?? dc cd", "-1 0 0", "cc dc cd", 2}, {"?? ?? dc cd", "-1 0 1 1", "cc cc dc cd", 2}, {"ad ?? ?? da", "-1 0 1 2", "ad aa aa da", 2}, {"da ?? ?? ad", "-1 0 1 2", "da aa aa ad", 2}, {"d ? c ? b", "-1 0 1 0 3", "d c c b b", 2}, {"d ? d ? a", "-1 0 1 0 3", "d d d a a", 1}, {"???????? abcdabcd dcbadcba", "-1 0 0", "abbaabba abcdabcd dcbadcba", 8},
		{"? ? ? a b c", "-1 0 0 1 1 2", "a a a a b c", 2}, {"? ? ? c b a", "-1 0 0 1 1 2", "a a a c b a", 2}, {"? ? ? d c b", "-1 0 0 1 1 2", "b b b d c b", 2}, {"? ? c ? b d", "-1 0 1 0 3 3", "b b c b b d", 2},
	} {
		books, stem := strings.Fields(c.books), numbersOf(t, c.stem)
		filled, ok := impl.StemFill(books, stem)
		if got := impl.StemFewest(books, stem); !ok || strings.Join(filled, " ") != c.want || got != c.fewest {
			t.Errorf("StemFill(%s, %s) = %q, %v, and StemFewest is %d; want %s and %d", c.books, c.stem, filled, ok, got, c.want, c.fewest)
		}
		if want, fewest := filledOf(books, stem); strings.Join(want, " ") != c.want || fewest != c.fewest {
			t.Errorf("of %s and %s, the fewest changes are %d, of %q", c.books, c.stem, fewest, want)
		}
	}
}

// TestP75ManyPlaces takes 8 places at once, of all columns of 4 manuscripts.
func TestP75ManyPlaces(t *testing.T) {
	readings := []string{"abcdabcd", "aabbccdd", "dcbaabcd", "cabddbac", "bbbbcccc", "ddddaaaa"}
	for _, stem := range stemsOf(6) {
		for bits := range 63 {
			books := withLost(readings, bits)
			filled, ok := impl.StemFill(books, stem)
			if want, fewest := filledOf(books, stem); !ok || !slices.Equal(filled, want) || impl.StemFewest(books, stem) != fewest {
				t.Fatalf("StemFill(%q, %v) = %q, %v; want %q", books, stem, filled, ok, want)
			}
		}
	}
}

func TestP76LastOne(t *testing.T) {
	less := 0
	for _, c := range stemCases() {
		n, fewest := len(c.books), impl.StemFewest(c.books, c.stem)
		if n < 6 {
			lost := append(slices.Clone(c.books), strings.Repeat("?", len(c.books[0])))
			if got := impl.StemFewest(lost, append(slices.Clone(c.stem), n-1)); got != fewest {
				t.Errorf("StemFewest(%q, %v) = %d, but with a lost copy of the last one it is %d", c.books, c.stem, fewest, got)
			}
		}
		if n == 1 {
			continue
		}
		without := impl.StemFewest(c.books[:n-1], c.stem[:n-1])
		if allLost := strings.Trim(strings.Join(c.books[:n-1], ""), "?") == ""; allLost != (without == -1) || without > fewest {
			t.Errorf("StemFewest(%q, %v) = %d, but without the last one it is %d", c.books, c.stem, fewest, without)
		}
		if without < fewest {
			less++
		}
	}
	if less < 1000 {
		t.Errorf("just %d stems have fewer changes without the last one", less)
	}
}

func TestP77FirstOneLost(t *testing.T) {
	less := 0
	for _, c := range stemCases() {
		if len(c.books) == 1 || c.books[0][0] == '?' {
			continue
		}
		fewest, lost := impl.StemFewest(c.books, c.stem), withLost(c.books, 1)
		without := impl.StemFewest(lost, c.stem)
		if allLost := strings.Trim(strings.Join(lost, ""), "?") == ""; allLost != (without == -1) || without > fewest {
			t.Errorf("StemFewest(%q, %v) = %d, but with the first one lost it is %d", c.books, c.stem, fewest, without)
		}
		if without >= 0 && without < fewest {
			less++
		}
		if len(c.books) == 2 && isWhole(c.books) && (fewest != impl.BooksFar(c.books, 0, 1) || without != 0) {
			t.Errorf("StemFewest(%q, %v) = %d, and with the first one lost %d", c.books, c.stem, fewest, without)
		}
	}
	if less < 1000 {
		t.Errorf("just %d stems have fewer changes with the first one lost", less)
	}
}

func TestP78StemMove(t *testing.T) {
	moves := 0
	for _, c := range stemCases() {
		n := len(c.books)
		for i := range n {
			for to := range n {
				if to >= i {
					checkNotMoved(t, c.books, c.stem, i, to)
					continue
				}
				moves++
				checkCopied(t, c, i, to)
			}
		}
	}
	if moves < 50000 {
		t.Errorf("just %d manuscripts are moved", moves)
	}
}

// checkCopied is for a move to a manuscript ahead, also to the one from which it was copied already.
func checkCopied(t *testing.T, c stemCase, i, to int) {
	t.Helper()
	moved, ok := impl.StemMove(c.books, c.stem, i, to)
	if !ok || !slices.Equal(moved, replaced(c.stem, i, to)) || !impl.StemValid(c.books, moved) {
		t.Fatalf("StemMove(%q, %v, %d, %d) = %v, %v", c.books, c.stem, i, to, moved, ok)
	}
	if back, ok := impl.StemMove(c.books, moved, i, c.stem[i]); !ok || !slices.Equal(back, c.stem) {
		t.Errorf("StemMove(%q, %v, %d, %d) = %v, %v; want %v", c.books, moved, i, c.stem[i], back, ok, c.stem)
	}
	if depth := impl.StemDepth(c.books, moved, i); depth != impl.StemDepth(c.books, moved, to)+1 {
		t.Errorf("StemDepth(%q, %v, %d) = %d, but that of %d is %d", c.books, moved, i, depth, to, impl.StemDepth(c.books, moved, to))
	}
	places := len(c.books[0])
	if d := impl.StemFewest(c.books, moved) - impl.StemFewest(c.books, c.stem); d > places || d < -places || to == c.stem[i] && d != 0 {
		t.Errorf("from %v to %v, the fewest changes of %q differ by %d", c.stem, moved, c.books, d)
	}
	if isWhole(c.books) {
		if d := impl.StemChanges(c.books, moved) - impl.StemChanges(c.books, c.stem); d > places || d < -places {
			t.Errorf("from %v to %v, the changes of %q differ by %d", c.stem, moved, c.books, d)
		}
	}
}

func TestP78InvalidMoves(t *testing.T) {
	for _, books := range [][]string{{"ab"}, {"ab", "ba"}, {"ab", "??", "bb"}, {"??", "ab", "cd", "da", "??", "ac"}} {
		n := len(books)
		stem := append([]int{-1}, make([]int, n-1)...)
		for i := range n {
			for _, bad := range append(outOf(n-1), 255, 256, 1<<32+1) {
				checkNotMoved(t, books, stem, i, bad)
				checkNotMoved(t, books, stem, bad, i)
				checkNotMoved(t, books, stem, bad, bad)
				if depth := impl.StemDepth(books, stem, bad); depth != -1 {
					t.Errorf("StemDepth(%q, %v, %d) = %d", books, stem, bad, depth)
				}
			}
			checkNotMoved(t, books, stem, i, i)
			checkNotMoved(t, books, stem, i, n-1)
			checkNotMoved(t, books, stem, 0, i)
		}
	}
}

// bestStemOf takes the first one of all stems with the fewest changes, as they are in order.
func bestStemOf(books []string) ([]int, int) {
	stems := stemsOf(len(books))
	best, equal := stems[0], 0
	for _, stem := range stems {
		switch d := changesOf(books, stem) - changesOf(books, best); {
		case d < 0:
			best, equal = stem, 1
		case d == 0:
			equal++
		}
	}
	return best, equal
}

func TestP79StemBest(t *testing.T) {
	several, single := 0, 0
	for _, books := range someBooks() {
		want, equal := bestStemOf(books)
		stem, ok := impl.StemBest(books)
		if !ok || !slices.Equal(stem, want) {
			t.Errorf("StemBest(%q) = %v, %v; want %v", books, stem, ok, want)
			continue
		}
		if equal > 1 {
			several++
		} else {
			single++
		}
		changes := impl.StemChanges(books, stem)
		for i := range books {
			for to := range i {
				other := impl.StemChanges(books, replaced(stem, i, to))
				if other < changes || other == changes && to < stem[i] {
					t.Errorf("StemBest(%q) = %v with %d changes, but with %d copied from %d there are %d", books, stem, changes, i, to, other)
				}
			}
		}
	}
	if several < 100 || single < 100 {
		t.Errorf("just %d manuscripts have several best stems, and %d have one", several, single)
	}
}

func TestP79StemBestEdges(t *testing.T) {
	for _, c := range []struct{ books, stem string }{
		{"a", "-1"}, {"abcdabcd", "-1"}, {"a b", "-1 0"}, {"aab acb acd", "-1 0 1"}, {"a a", "-1 0"},
		// The first number, or only a later one, tells which stem is meant.
		{"a b c", "-1 0 0"}, {"a a a", "-1 0 0"}, {"a b b", "-1 0 1"}, {"a b a", "-1 0 0"}, {"a a b b", "-1 0 0 2"}, {"a b c d", "-1 0 0 0"}, {"a b b b", "-1 0 1 1"}, {"a b c c b a", "-1 0 0 2 1 0"}, {"aa bb ab", "-1 0 0"}, {"bb aa ab ab", "-1 0 0 2"}, {"aa bb cc bc", "-1 0 0 1"}, {"aa cc bb bc", "-1 0 0 1"},
		{"aaa bbb abb abc", "-1 0 1 2"}, {"aaaa bbbb aabb", "-1 0 0"}, {"aaaa bbbb abbb bbba", "-1 0 1 1"}, {"abcdabcd abcdabcc abcdabdd abcdabdc bbcdabcc abcdabcd", "-1 0 0 1 1 0"}, {"a b c d a b", "-1 0 0 0 0 1"}, {"d c b a a a", "-1 0 0 0 3 3"},
	} {
		stem, ok := impl.StemBest(strings.Fields(c.books))
		if !ok || textOfNumbers(stem) != c.stem {
			t.Errorf("StemBest of %s = %v, %v; want %s", c.books, stem, ok, c.stem)
		}
	}
}

func TestP80StemDepth(t *testing.T) {
	depths := map[int]int{}
	for _, c := range stemCases() {
		for i, from := range c.stem {
			depth := impl.StemDepth(c.books, c.stem, i)
			if depth != depthOf(c.stem, i) || (depth == 0) != (i == 0) || depth >= len(c.books) || i > 0 && depth != impl.StemDepth(c.books, c.stem, from)+1 {
				t.Errorf("StemDepth(%q, %v, %d) = %d", c.books, c.stem, i, depth)
			}
			depths[depth]++
		}
		for _, bad := range outOf(len(c.books) - 1) {
			if depth := impl.StemDepth(c.books, c.stem, bad); depth != -1 {
				t.Errorf("StemDepth(%q, %v, %d) = %d", c.books, c.stem, bad, depth)
			}
		}
	}
	for depth := range 6 {
		if depths[depth] < 60 {
			t.Errorf("too few manuscripts have the depth %d: %v", depth, depths)
		}
	}
	books := []string{"a", "?", "?", "b", "?", "c"}
	for i := range books {
		chain := impl.StemDepth(books, []int{-1, 0, 1, 2, 3, 4}, i)
		if star := impl.StemDepth(books, make([]int, 6), i); chain != i || star != -1 {
			t.Errorf("in a chain, StemDepth of %d = %d", i, chain)
		}
		if star := impl.StemDepth(books, []int{-1, 0, 0, 0, 0, 0}, i); star != min(1, i) {
			t.Errorf("StemDepth of %d, copied from the first one, = %d", i, star)
		}
	}
}

func TestP80ResultsApart(t *testing.T) {
	for _, c := range stemCases() {
		books, stem := spare(c.books), spare(c.stem)
		filled, _ := impl.StemFill(books, stem)
		checkApart(t, "StemFill", filled, books, "zz")
		for i := range stem {
			moved, _ := impl.StemMove(books, stem, i, 0)
			checkApart(t, "StemMove", moved, stem, -9)
		}
		impl.StemFewest(books, stem)
		impl.StemChanges(books, stem)
		impl.StemBest(books)
		impl.BooksCommon(books)
		if !slices.Equal(books, c.books) || !slices.Equal(stem, c.stem) || strings.Join(books[len(books):cap(books)], "") != "" || sumOf(stem[len(stem):cap(stem)]) != 0 {
			t.Fatalf("%q and %v became %q and %v", c.books, c.stem, books[:cap(books)], stem[:cap(stem)])
		}
	}
}
