package tests

import (
	"math"
	"math/rand/v2"
	"slices"
	"strings"
	"testing"

	"loop.example/neumes/impl"
)

// farOf and the others tell what the functions of manuscripts return, made without the program's own functions.
func farOf(a, b string) int {
	many := 0
	for i := range a {
		if a[i:i+1] != b[i:i+1] {
			many++
		}
	}
	return many
}

func changesOf(books []string, stem []int) int {
	many := 0
	for i, from := range stem {
		if from >= 0 {
			many += farOf(books[from], books[i])
		}
	}
	return many
}

func isBook(s string) bool {
	return len(s) >= 1 && len(s) <= 8 && strings.Count(s, "a")+strings.Count(s, "b")+strings.Count(s, "c")+strings.Count(s, "d") == len(s)
}

// columnOf is the text of the letters that all manuscripts have at a place.
func columnOf(books []string, place int) string {
	text := ""
	for _, s := range books {
		text += s[place : place+1]
	}
	return text
}

// commonOf sorts the letters of each column and takes the first one of the longest runs.
func commonOf(books []string) string {
	text := ""
	for place := range books[0] {
		column := []byte(columnOf(books, place))
		slices.Sort(column)
		best := column[:1]
		for i := range column {
			for k := i + 1; k <= len(column); k++ {
				if column[i] == column[k-1] && k-i > len(best) {
					best = column[i:k]
				}
			}
		}
		text += string(best[:1])
	}
	return text
}

// filledColumn tries all letters for each ? of a column, in the order of the letters, and keeps the first way with the fewest changes.
func filledColumn(column string, stem []int) (string, int) {
	i := strings.IndexByte(column, '?')
	if i < 0 {
		changes := 0
		for k, from := range stem {
			if from >= 0 && column[from] != column[k] {
				changes++
			}
		}
		return column, changes
	}
	best, fewest := "", math.MaxInt
	for _, letter := range []string{"a", "b", "c", "d"} {
		if filled, changes := filledColumn(column[:i]+letter+column[i+1:], stem); changes < fewest {
			best, fewest = filled, changes
		}
	}
	return best, fewest
}

func filledOf(books []string, stem []int) ([]string, int) {
	filled := make([]string, len(books))
	sum := 0
	for place := range books[0] {
		column, changes := filledColumn(columnOf(books, place), stem)
		for i := range filled {
			filled[i] += column[i : i+1]
		}
		sum += changes
	}
	return filled, sum
}

// stemsOf are all stems of n manuscripts, those with lesser numbers first.
func stemsOf(n int) [][]int {
	list := [][]int{{-1}}
	for i := 1; i < n; i++ {
		longer := [][]int{}
		for _, stem := range list {
			for from := range i {
				longer = append(longer, append(slices.Clone(stem), from))
			}
		}
		list = longer
	}
	return list
}

func depthOf(stem []int, i int) int {
	depth := 0
	for ; stem[i] >= 0; i = stem[i] {
		depth++
	}
	return depth
}

func drawnBook(r *rand.Rand, letters string, places int) string {
	text := ""
	for range places {
		text += string(letters[r.IntN(len(letters))])
	}
	return text
}

// drawnBooks are readings of any letters, or each one copied from an earlier one with a few other letters.
func drawnBooks(r *rand.Rand, letters string, n, places int) []string {
	books := []string{drawnBook(r, letters, places)}
	copied := r.IntN(2) == 0
	for len(books) < n {
		s := drawnBook(r, letters, places)
		if copied {
			s = books[r.IntN(len(books))]
			for range r.IntN(3) {
				i := r.IntN(places)
				s = s[:i] + drawnBook(r, letters, 1) + s[i+1:]
			}
		}
		books = append(books, s)
	}
	return books
}

// someBooks are manuscripts none of which is lost, always the same ones.
func someBooks() [][]string {
	r := rand.New(rand.NewPCG(7, 72))
	list := [][]string{}
	for n := 1; n <= 6; n++ {
		for places := 1; places <= 8; places++ {
			for _, letters := range []string{"a", "d", "ab", "cd", "abc", "abcd", "abcd"} {
				list = append(list, drawnBooks(r, letters, n, places), drawnBooks(r, letters, n, places))
			}
		}
	}
	return list
}

// withLost has the manuscripts lost whose bits are set.
func withLost(books []string, bits int) []string {
	copied := slices.Clone(books)
	for i, s := range books {
		if bits&(1<<i) != 0 {
			copied[i] = strings.Repeat("?", len(s))
		}
	}
	return copied
}

type stemCase struct {
	books []string
	stem  []int
}

// stemCases are all stems of up to 6 manuscripts, with each choice of lost ones, and drawn ones of all numbers of places.
func stemCases() []stemCase {
	r := rand.New(rand.NewPCG(7, 75))
	cases := []stemCase{}
	for n := 1; n <= 6; n++ {
		for _, stem := range stemsOf(n) {
			for bits := range 1<<n - 1 {
				books := drawnBooks(r, []string{"ab", "abcd"}[bits&1], n, 1+r.IntN(2))
				cases = append(cases, stemCase{withLost(books, bits), stem})
			}
		}
	}
	for _, books := range someBooks() {
		stems := stemsOf(len(books))
		for range 3 {
			bits := r.IntN(1<<len(books) - 1)
			cases = append(cases, stemCase{withLost(books, bits), stems[r.IntN(len(stems))]})
		}
		cases = append(cases, stemCase{books, stems[r.IntN(len(stems))]})
	}
	return cases
}

func isWhole(books []string) bool {
	return !strings.Contains(strings.Join(books, ""), "?")
}

// noBooks are lists that are no manuscripts, whatever can be lost.
func noBooks() [][]string {
	list := [][]string{nil, {}, {""}, {"", ""}, {"a", ""}, {"", "a"}, {"?", ""}, {"", "?"}}
	for _, n := range []int{9, 10, 16, 64, 256, 257, 264} {
		list = append(list, []string{strings.Repeat("a", n)}, []string{strings.Repeat("a", n), strings.Repeat("b", n)}, []string{strings.Repeat("a", n), strings.Repeat("?", n)})
	}
	for _, n := range []int{7, 8, 12, 256, 257, 262} {
		list = append(list, slices.Repeat([]string{"ab"}, n), append(slices.Repeat([]string{"ab"}, n-1), "??"))
	}
	full := []string{"abcdabcd", "bbcdabcd", "cbcdabcd", "dbcdabcd", "abcdabca", "abcdabcb"}
	for i := range full {
		for _, bad := range []string{"", "a", "abcdabc", "abcdabcda", "???????", "?????????", "?bcdabcd", "abcdabc?", "abc?abcd", "???????a", "a???????", "Abcdabcd", "abcdabcD", "abcdebcd", "abcd`bcd", "abcdabc ", " bcdabcd", "abcdabc\x00", "abcdabc\xff", "abcd|bcd", "abcdabc\n", "éabcdabc", "abcdabé", "????>???", "????@???"} {
			list = append(list, replaced(full, i, bad))
		}
	}
	for _, bad := range []string{"e", "?a", "z", "A", " ", "\x00", "\xff", "aé", "abcde", "-1"} {
		list = append(list, []string{bad}, []string{bad, bad})
	}
	return list
}

// noStems are lists that are no stem of n manuscripts.
func noStems(n int) [][]int {
	list := [][]int{nil, slices.Repeat([]int{-1}, n+1), make([]int, n), append(make([]int, n), -1)}
	for _, stem := range stemsOf(n) {
		list = append(list, stem[:n-1], append(slices.Clone(stem), 0), append(slices.Clone(stem), n-1), append(slices.Clone(stem), -1), append(slices.Clone(stem), n), slices.Concat([]int{-1}, stem), stem[1:])
		for _, first := range []int{0, 1, -2, n - 1, n, math.MaxInt, math.MinInt, 1<<32 - 1, 255, 65535} {
			list = append(list, replaced(stem, 0, first))
		}
		for i := 1; i < n; i++ {
			for _, from := range []int{i, i + 1, n - 1, n, -1, -2, -n, math.MaxInt, math.MinInt, 1 << 32, 256, 1<<32 + 1, -256} {
				if from < 0 || from >= i {
					list = append(list, replaced(stem, i, from))
				}
			}
		}
	}
	return list
}

// checkNoStem is for manuscripts and a list that is no stem of them.
func checkNoStem(t *testing.T, books []string, stem []int) {
	t.Helper()
	if impl.StemValid(books, stem) || impl.StemChanges(books, stem) != -1 || impl.StemFewest(books, stem) != -1 {
		t.Errorf("StemValid(%q, %v) is %v, StemChanges %d, and StemFewest %d", books, stem, impl.StemValid(books, stem), impl.StemChanges(books, stem), impl.StemFewest(books, stem))
	}
	if filled, ok := impl.StemFill(books, stem); ok || len(filled) > 0 {
		t.Errorf("StemFill(%q, %v) = %q, %v", books, stem, filled, ok)
	}
	for _, i := range []int{-1, 0, 1, 2, 5, 6} {
		if depth := impl.StemDepth(books, stem, i); depth != -1 {
			t.Errorf("StemDepth(%q, %v, %d) = %d", books, stem, i, depth)
		}
		for _, to := range []int{-1, 0, 1} {
			checkNotMoved(t, books, stem, i, to)
		}
	}
}

func checkNotMoved(t *testing.T, books []string, stem []int, i, to int) {
	t.Helper()
	if moved, ok := impl.StemMove(books, stem, i, to); ok || len(moved) > 0 {
		t.Errorf("StemMove(%q, %v, %d, %d) = %v, %v", books, stem, i, to, moved, ok)
	}
}

// checkNotWhole is for lists that are no manuscripts, or of which one is lost.
func checkNotWhole(t *testing.T, books []string) {
	t.Helper()
	if impl.BooksValid(books) {
		t.Errorf("BooksValid(%q) holds", books)
	}
	for _, i := range []int{-1, 0, 1, 5, 6} {
		for _, k := range []int{-1, 0, 1, 5, 6} {
			if far := impl.BooksFar(books, i, k); far != -1 {
				t.Errorf("BooksFar(%q, %d, %d) = %d", books, i, k, far)
			}
		}
	}
	if text, ok := impl.BooksCommon(books); ok || text != "" {
		t.Errorf("BooksCommon(%q) = %q, %v", books, text, ok)
	}
	if stem, ok := impl.StemBest(books); ok || len(stem) > 0 {
		t.Errorf("StemBest(%q) = %v, %v", books, stem, ok)
	}
	if len(books) <= 6 {
		for _, stem := range stemsOf(max(1, len(books)))[:1] {
			if changes := impl.StemChanges(books, stem); changes != -1 {
				t.Errorf("StemChanges(%q, %v) = %d", books, stem, changes)
			}
		}
	}
}
