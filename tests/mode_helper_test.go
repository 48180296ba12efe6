package tests

import (
	"math"
	"math/rand/v2"
	"slices"
	"strconv"
	"strings"
	"testing"

	"loop.example/neumes/impl"
)

// modeRow holds the steps of a mode as the document tells them.
type modeRow struct {
	final, tenor, least, greatest int
}

// modeRows are all modes, from the mode 1 on.
var modeRows = []modeRow{
	{4, 8, 3, 12}, {4, 6, 0, 9},
	{5, 10, 4, 13}, {5, 8, 1, 10},
	{6, 10, 5, 14}, {6, 8, 2, 11},
	{7, 11, 6, 15}, {7, 10, 3, 12},
}

// noModes are numbers without a mode, some of which have one in 8 or 32 bits.
func noModes() []int {
	list := []int{0, -1, -2, -4, -7, -8, -9, 9, 10, 11, 16, 17, 256, 257, 264, 1<<32 + 1, 1<<32 + 8, math.MinInt + 1, math.MinInt + 4}
	return append(list, farNumbers...)
}

// inOf and the others tell what ModeIn, ModeAll, ModeLikely and ModeMoves return for melodies, made without the program's own functions.
func inOf(m []impl.Tone, mode int) bool {
	if mode < 1 || mode > 8 || len(m) == 0 {
		return false
	}
	row := modeRows[mode-1]
	for _, x := range m {
		if x.Step < row.least || x.Step > row.greatest {
			return false
		}
	}
	last := m[len(m)-1]
	return last.Step == row.final && !last.Soft
}

func modesOf(m []impl.Tone) []int {
	list := []int{}
	for mode := 1; mode <= 8; mode++ {
		if inOf(m, mode) {
			list = append(list, mode)
		}
	}
	return list
}

func tenorsOf(m []impl.Tone, mode int) int {
	many := 0
	for _, x := range m {
		if x.Step == modeRows[mode-1].tenor {
			many++
		}
	}
	return many
}

func likelyOf(m []impl.Tone) (int, bool) {
	modes := modesOf(m)
	if len(modes) == 0 {
		return 0, false
	}
	if len(modes) == 2 && tenorsOf(m, modes[1]) > tenorsOf(m, modes[0]) {
		return modes[1], true
	}
	return modes[0], true
}

func modeMovesOf(m []impl.Tone) []int {
	list := []int{}
	for k := -25; k <= 25; k++ {
		if moved, ok := movedOf(m, k); ok && len(modesOf(moved)) > 0 {
			list = append(list, k)
		}
	}
	return list
}

// modalMelodies are melodies of 1 to 24 tones at the finals, always the same ones: in the whole range of each mode, in the range of both modes of a final, with each end of a range and one step outside somewhere, and with tones at both tenors.
func modalMelodies() [][]impl.Tone {
	r := rand.New(rand.NewPCG(8, 57))
	list := [][]impl.Tone{}
	for i, row := range modeRows {
		other := modeRows[i^1]
		final := impl.Tone{Step: row.final}
		whole := between(row.least, row.greatest)
		both := between(max(row.least, other.least), min(row.greatest, other.greatest))
		tenors := []impl.Tone{{Step: row.tenor}, {Step: other.tenor}}
		for n := range 24 {
			for range 2 {
				list = append(list, append(drawn(r, whole, n), final), append(drawn(r, both, n), final), append(drawn(r, tenors, n), final))
			}
		}
		for _, step := range []int{row.least, row.greatest, row.least - 1, row.greatest + 1} {
			list = append(list, atEachPlace(r, both, final, step)...)
		}
	}
	return list
}

// atEachPlace are melodies of several lengths with a tone of a step at each place but the last one, if it is in the gamut.
func atEachPlace(r *rand.Rand, from []impl.Tone, last impl.Tone, step int) [][]impl.Tone {
	list := [][]impl.Tone{}
	if step < 0 || step > 20 {
		return list
	}
	for _, n := range []int{1, 2, 5, 23} {
		for i := range n {
			m := append(drawn(r, from, n), last)
			m[i] = impl.Tone{Step: step}
			list = append(list, m)
		}
	}
	return list
}

// between are all tones with steps in a range, the Soft ones too.
func between(least, greatest int) []impl.Tone {
	return slices.DeleteFunc(allTones(), func(x impl.Tone) bool { return x.Step < least || x.Step > greatest })
}

func modeTestMelodies() [][]impl.Tone {
	return append(someMelodies(), modalMelodies()...)
}

// entryOf reads an entry from its Mode, its Name and its Start, as in "1 ave D0 F0".
func entryOf(t *testing.T, text string) impl.Entry {
	t.Helper()
	words := strings.Fields(text)
	mode, err := strconv.Atoi(words[0])
	if err != nil {
		t.Fatal(err)
	}
	return impl.Entry{Name: words[1], Mode: mode, Start: tonesOf(t, strings.Join(words[2:], " "))}
}

// entriesOf reads entries with commas between; there are none in an empty text.
func entriesOf(t *testing.T, text string) []impl.Entry {
	t.Helper()
	list := []impl.Entry{}
	for _, part := range strings.Split(text, ",") {
		if text != "" {
			list = append(list, entryOf(t, part))
		}
	}
	return list
}

// keyOf puts entries in order: a mode is one digit, and a byte a to z is greater than the end of a name.
func keyOf(e impl.Entry) string {
	return strconv.Itoa(e.Mode) + e.Name
}

func textOfEntries(list []impl.Entry) string {
	parts := []string{}
	for _, e := range list {
		parts = append(parts, strconv.Itoa(e.Mode)+" "+e.Name+" "+textOf(e.Start))
	}
	return strings.Join(parts, ",")
}

func sameEntry(a, b impl.Entry) bool {
	return a.Name == b.Name && a.Mode == b.Mode && slices.Equal(a.Start, b.Start)
}

func sameEntries(a, b []impl.Entry) bool {
	return slices.EqualFunc(a, b, sameEntry)
}

// isEntry and isTonary tell what is an entry and a tonary, made without the program's own functions.
func isEntry(e impl.Entry) bool {
	if e.Mode < 1 || e.Mode > 8 || len(e.Name) < 1 || len(e.Name) > 10 || len(e.Start) < 1 || len(e.Start) > 8 {
		return false
	}
	return strings.Trim(e.Name, "abcdefghijklmnopqrstuvwxyz") == "" && !slices.ContainsFunc(e.Start, func(x impl.Tone) bool { return !isTone(x) })
}

func isTonary(list []impl.Entry) bool {
	for i, e := range list {
		if !isEntry(e) || i > 0 && keyOf(list[i-1]) >= keyOf(e) {
			return false
		}
	}
	return len(list) <= 20
}

// entryNames are names of 1 to 10 bytes, some of which are the beginning of others.
var entryNames = []string{"a", "aa", "ab", "abc", "ave", "avea", "b", "deus", "kyrie", "yz", "z", "za", "aaaaaaaaaa", "abcdefghij", "zzzzzzzzzz", "aaaaaaaaab"}

// drawnEntries are entries with different modes or names, sorted.
func drawnEntries(r *rand.Rand, n int, modes int) []impl.Entry {
	byKey := map[string]impl.Entry{}
	for len(byKey) < n {
		e := impl.Entry{Name: entryNames[r.IntN(len(entryNames))], Mode: 1 + r.IntN(modes), Start: drawnStart(r)}
		byKey[keyOf(e)] = e
	}
	return sortedEntries(byKey)
}

// drawnStart often has few tones near one another, so that several entries begin alike.
func drawnStart(r *rand.Rand) []impl.Tone {
	switch r.IntN(3) {
	case 0:
		return drawn(r, allTones(), 1+r.IntN(8))
	case 1:
		return drawn(r, bTones(), 1+r.IntN(8))
	}
	low := r.IntN(19)
	return drawn(r, between(low, low+2), 1+r.IntN(8))
}

func sortedEntries(byKey map[string]impl.Entry) []impl.Entry {
	list := []impl.Entry{}
	for _, e := range byKey {
		list = append(list, e)
	}
	slices.SortFunc(list, func(a, b impl.Entry) int { return strings.Compare(keyOf(a), keyOf(b)) })
	return list
}

// someTonaries are tonaries of 0 to 20 entries, always the same ones: of all modes, of a few and of one alone.
func someTonaries() [][]impl.Entry {
	r := rand.New(rand.NewPCG(20, 53))
	list := [][]impl.Entry{}
	for n := 0; n <= 20; n++ {
		for range 4 {
			list = append(list, drawnEntries(r, n, 8), drawnEntries(r, n, 2))
		}
		if n <= len(entryNames) {
			list = append(list, drawnEntries(r, n, 1))
		}
	}
	return list
}

// goodEntry is an entry of which others with one flaw are made.
func goodEntry(t *testing.T) impl.Entry {
	return entryOf(t, "3 deus E0 G1 b1 B1")
}

// badEntries have another Mode, other bytes in the Name or too many or none, or a Start that is none.
func badEntries(t *testing.T) []impl.Entry {
	good := goodEntry(t)
	list := []impl.Entry{{}, {Name: "deus"}, {Mode: 3}, {Start: good.Start}, {Name: "deus", Mode: 3}}
	for _, mode := range noModes() {
		list = append(list, impl.Entry{Name: good.Name, Mode: mode, Start: good.Start})
	}
	for _, name := range badNames() {
		list = append(list, impl.Entry{Name: name, Mode: good.Mode, Start: good.Start})
	}
	for _, start := range badStarts(t) {
		list = append(list, impl.Entry{Name: good.Name, Mode: good.Mode, Start: start})
	}
	return list
}

func badNames() []string {
	list := []string{"", " ", "é", "áve", "ａ", "deus ", " deus", "de us", "deus\n", "deus\x00", "Deus", "DEUS", "deuS", "deus1", "d-eus", "deüs", "\xff"}
	for b := range 256 {
		other := string([]byte{byte(b)})
		if b >= 'a' && b <= 'z' {
			continue
		}
		list = append(list, other, other+"eus", "de"+other+"s", "deu"+other, "abcdefghi"+other)
	}
	for _, n := range []int{11, 12, 20, 256, 257, 266, 65537} {
		list = append(list, strings.Repeat("a", n))
	}
	return list
}

func badStarts(t *testing.T) [][]impl.Tone {
	list := [][]impl.Tone{nil, {}}
	for _, bad := range badTones() {
		list = append(list, []impl.Tone{bad})
		for i := range 8 {
			list = append(list, replaced(repeated(t, "G1", 8), i, bad))
		}
	}
	for _, n := range []int{9, 10, 16, 24, 25, 256, 257, 1000} {
		list = append(list, repeated(t, "G1", n))
	}
	return list
}

// noTonaries are lists with an invalid entry at some place, in a wrong order, with an entry twice, and of too many entries.
func noTonaries(t *testing.T) [][]impl.Entry {
	list := [][]impl.Entry{}
	for _, bad := range badEntries(t) {
		list = append(list, []impl.Entry{bad})
	}
	for _, text := range []string{"2 a D0,1 a D0", "1 b D0,1 a D0", "1 ab D0,1 a D0", "1 a D0,1 a D0", "1 a D0,1 a F0", "8 a D0,1 b D0", "1 a D0,2 a D0,1 b D0", "1 a D0,1 c D0,1 b D0", "1 z D0,1 aaaaaaaaaa D0",
		"1 a D0,2 z D0,2 a D0", "1 a D0,2 a D0,2 a D0", "1 a D0,2 a D0,3 a D0,1 a D0"} {
		list = append(list, entriesOf(t, text))
	}
	r := rand.New(rand.NewPCG(21, 53))
	for _, n := range []int{21, 22, 30, 60} {
		list = append(list, drawnEntries(r, n, 8))
	}
	for _, n := range []int{2, 3, 19, 20} {
		list = append(list, flawed(t, drawnEntries(r, n, 8))...)
		list = append(list, flawed(t, drawnEntries(r, n, 2))...)
	}
	return list
}

// flawed are a tonary's entries with one of a few flaws at each place, two entries exchanged, and an entry twice.
func flawed(t *testing.T, good []impl.Entry) [][]impl.Entry {
	list := [][]impl.Entry{}
	for i, e := range good {
		noMode, longName, badStart, longStart, noStart := e, e, e, e, e
		noMode.Mode, longName.Name, noStart.Start = e.Mode+8, "a"+strings.Repeat("z", 10), nil
		badStart.Start, longStart.Start = append(tonesOf(t, "D0"), impl.Tone{Step: 21}), repeated(t, "D0", 9)
		for _, bad := range []impl.Entry{noMode, longName, badStart, longStart, noStart} {
			list = append(list, replaced(good, i, bad))
		}
		list = append(list, slices.Insert(slices.Clone(good), i, e), append(slices.Clone(good), e))
		if i > 0 {
			swapped := replaced(good, i, good[i-1])
			swapped[i-1] = e
			list = append(list, swapped, replaced(good, i, good[i-1]))
		}
	}
	return list
}

// spareEntries is a copy of entries with room behind the list and behind each Start.
func spareEntries(list []impl.Entry) []impl.Entry {
	copied := spare(list)
	for i := range copied {
		copied[i].Start = spare(copied[i].Start)
	}
	return copied
}
