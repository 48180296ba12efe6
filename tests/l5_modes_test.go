package tests

import (
	"math/rand/v2"
	"slices"
	"strings"
	"testing"

	"loop.example/neumes/impl"
)

func TestP48Modes(t *testing.T) {
	for i, row := range modeRows {
		mode := i + 1
		least, greatest, ok := impl.ModeRange(mode)
		if !ok || least != row.least || greatest != row.greatest {
			t.Errorf("ModeRange(%d) = %d, %d, %v", mode, least, greatest, ok)
		}
		final, tenor, pair := impl.ModeFinal(mode), impl.ModeTenor(mode), impl.ModePair(mode)
		if final != row.final || tenor != row.tenor || pair != []int{2, 1, 4, 3, 6, 5, 8, 7}[i] {
			t.Errorf("the mode %d has the final %d, the tenor %d and the pair %d", mode, final, tenor, pair)
		}
		if final < least || final > greatest || tenor < least || tenor > greatest || impl.ModePair(pair) != mode || impl.ModeFinal(pair) != final {
			t.Errorf("the mode %d and its pair %d do not go together", mode, pair)
		}
		low, high, _ := impl.ModeRange(pair)
		if mode%2 == 1 && (greatest-high != 3 || least-low != 3) {
			t.Errorf("the ranges of the modes %d and %d are %d to %d and %d to %d", mode, pair, least, greatest, low, high)
		}
	}
}

func TestP48NamesOfFinalsAndTenors(t *testing.T) {
	for mode, texts := range map[int]string{1: "D0 A1", 2: "D0 F0", 3: "E0 C1", 4: "E0 A1", 5: "F0 C1", 6: "F0 A1", 7: "G1 D1", 8: "G1 C1"} {
		both := tonesOf(t, texts)
		if impl.ModeFinal(mode) != both[0].Step || impl.ModeTenor(mode) != both[1].Step {
			t.Errorf("the mode %d has the final %d and the tenor %d; want %s", mode, impl.ModeFinal(mode), impl.ModeTenor(mode), texts)
		}
	}
}

func TestP48NoModes(t *testing.T) {
	for _, mode := range noModes() {
		least, greatest, ok := impl.ModeRange(mode)
		if ok || least != 0 || greatest != 0 {
			t.Errorf("ModeRange(%d) = %d, %d, %v", mode, least, greatest, ok)
		}
		if final, tenor, pair := impl.ModeFinal(mode), impl.ModeTenor(mode), impl.ModePair(mode); final != -1 || tenor != -1 || pair != -1 {
			t.Errorf("the mode %d has the final %d, the tenor %d and the pair %d", mode, final, tenor, pair)
		}
	}
}

func TestP49ModeIn(t *testing.T) {
	held := map[int]int{}
	for _, m := range modeTestMelodies() {
		for mode := -1; mode <= 10; mode++ {
			is := impl.ModeIn(m, mode)
			if is != inOf(m, mode) {
				t.Errorf("ModeIn(%s, %d) = %v", textOf(m), mode, is)
			}
			if is {
				held[mode]++
				checkStaysIn(t, m, mode)
			}
		}
	}
	for mode := 1; mode <= 8; mode++ {
		if held[mode] < 100 {
			t.Errorf("just %d melodies are in the mode %d", held[mode], mode)
		}
	}
}

// checkStaysIn is for a melody that is in a mode.
func checkStaysIn(t *testing.T, m []impl.Tone, mode int) {
	t.Helper()
	if len(m) > 1 && !impl.ModeIn(m[1:], mode) {
		t.Errorf("ModeIn(%s, %d) does not hold without the first tone", textOf(m), mode)
	}
	final := []impl.Tone{{Step: impl.ModeFinal(mode)}}
	ahead, behind := slices.Concat(final, m), slices.Concat(m, final)
	room := len(m) < 24
	if impl.ModeIn(ahead, mode) != room || impl.ModeIn(behind, mode) != room {
		t.Errorf("ModeIn(%s, %d) with the final once more does not tell %v", textOf(m), mode, room)
	}
}

func TestP49ModeInEdges(t *testing.T) {
	for _, c := range []struct {
		m     string
		modes []int
	}{
		{"", nil}, {"D0", []int{1, 2}}, {"E0", []int{3, 4}}, {"F0", []int{5, 6}}, {"G1", []int{7, 8}},
		{"G0", nil}, {"A0", nil}, {"B0", nil}, {"C0", nil}, {"A1", nil}, {"B1", nil}, {"b1", nil}, {"b0", nil}, {"C1", nil}, {"F2", nil},
		{"D1", nil}, {"E1", nil}, {"F1", nil}, {"G2", nil}, {"D2", nil}, {"E2", nil},
		{"D0 F0 A1 A1 G1 F0 E0 D0", []int{1, 2}}, {"D0 b1 D0", []int{1, 2}}, {"D0 B1 D0", []int{1, 2}},
		{"C0 E1 D0", []int{1}}, {"C0 F1 D0", nil}, {"B0 E1 D0", nil}, {"B0 D0", []int{2}}, {"C1 D0", []int{1}}, {"G0 B1 D0", []int{2}}, {"G0 b1 D0", []int{2}}, {"b0 b1 D0", []int{2}}, {"G0 C1 D0", nil},
		{"D0 F1 E0", []int{3}}, {"D0 G2 E0", nil}, {"C0 E0", []int{4}}, {"A0 C1 E0", []int{4}}, {"A0 D1 E0", nil}, {"G0 E0", nil},
		{"E0 G2 F0", []int{5}}, {"E0 A2 F0", nil}, {"B0 D1 F0", []int{6}}, {"b0 D1 F0", []int{6}}, {"B0 E1 F0", nil}, {"A0 F0", nil}, {"D0 F0", []int{6}},
		{"F0 A2 G1", []int{7}}, {"F0 B2 G1", nil}, {"F0 b2 G1", nil}, {"C0 E1 G1", []int{8}}, {"C0 F1 G1", nil}, {"B0 G1", nil}, {"E0 G1", []int{8}}, {"F1 G1", []int{7}},
		{"D0 D1", nil}, {"D0 A1", nil}, {"A1 b1", nil}, {"D1 D0", []int{1}}, {"G1 G0", nil},
		{strings.Repeat("A1 ", 23) + "D0", []int{1, 2}},
	} {
		m := tonesOf(t, c.m)
		if all := impl.ModeAll(m); !slices.Equal(all, c.modes) {
			t.Errorf("ModeAll(%s) = %v; want %v", c.m, all, c.modes)
		}
		for mode := 0; mode <= 9; mode++ {
			if impl.ModeIn(m, mode) != slices.Contains(c.modes, mode) {
				t.Errorf("ModeIn(%s, %d) is wrong", c.m, mode)
			}
		}
	}
}

func TestP49InvalidArguments(t *testing.T) {
	for _, m := range append(noMelodies(t), badStarts(t)...) {
		if impl.MelodyValid(m) && len(m) > 0 {
			continue
		}
		for mode := 0; mode <= 9; mode++ {
			if impl.ModeIn(m, mode) {
				t.Errorf("ModeIn(%v, %d) holds", m, mode)
			}
		}
	}
	for _, mode := range noModes() {
		for _, text := range []string{"", "D0", "E0", "F0", "G1", "G0", "D0 F0 A1 A1 G1 F0 E0 D0"} {
			if impl.ModeIn(tonesOf(t, text), mode) {
				t.Errorf("ModeIn(%s, %d) holds", text, mode)
			}
		}
	}
}

func TestP50ModeAll(t *testing.T) {
	many := map[int]int{}
	for _, m := range modeTestMelodies() {
		all := impl.ModeAll(m)
		many[len(all)]++
		if !slices.Equal(all, modesOf(m)) {
			t.Errorf("ModeAll(%s) = %v; want %v", textOf(m), all, modesOf(m))
		}
		for mode := -1; mode <= 10; mode++ {
			if impl.ModeIn(m, mode) != slices.Contains(all, mode) {
				t.Errorf("ModeAll(%s) = %v does not agree with ModeIn of %d", textOf(m), all, mode)
			}
		}
		if len(all) > 2 || len(all) == 2 && (impl.ModePair(all[0]) != all[1] || all[0] > all[1]) {
			t.Errorf("ModeAll(%s) = %v is not a pair", textOf(m), all)
		}
	}
	if many[0] < 100 || many[1] < 100 || many[2] < 100 {
		t.Errorf("the melodies are in too few modes: %v", many)
	}
}

// checkNoMode is for a list that is in no mode, moved or not.
func checkNoMode(t *testing.T, m []impl.Tone) {
	t.Helper()
	likely, ok := impl.ModeLikely(m)
	if all, moves := impl.ModeAll(m), impl.ModeMoves(m); ok || likely != 0 || len(all) != 0 || len(moves) != 0 {
		t.Errorf("ModeLikely(%v) = %d, %v, ModeAll is %v, ModeMoves is %v", m, likely, ok, all, moves)
	}
}

func TestP50NoMelodies(t *testing.T) {
	checkNoMode(t, nil)
	checkNoMode(t, []impl.Tone{})
	for _, m := range noMelodies(t) {
		checkNoMode(t, m)
	}
	for _, bad := range badTones() {
		for i := range 4 {
			checkNoMode(t, replaced(tonesOf(t, "F0 G1 E0 D0"), i, bad))
		}
	}
}

func TestP51ModeLikely(t *testing.T) {
	even, ties := 0, 0
	for _, m := range modeTestMelodies() {
		likely, ok := impl.ModeLikely(m)
		want, is := likelyOf(m)
		if ok != is || likely != want {
			t.Errorf("ModeLikely(%s) = %d, %v; want %d, %v", textOf(m), likely, ok, want, is)
		}
		all := impl.ModeAll(m)
		if ok != (len(all) > 0) || ok && !slices.Contains(all, likely) {
			t.Errorf("ModeLikely(%s) = %d, %v is not one of %v", textOf(m), likely, ok, all)
		}
		if len(all) < 2 {
			continue
		}
		first, second := tenorsOf(m, all[0]), tenorsOf(m, all[1])
		if likely%2 == 0 {
			even++
		} else if first == second && first > 0 {
			ties++
		}
		if (likely == all[0]) != (first >= second) {
			t.Errorf("ModeLikely(%s) = %d with %d and %d tones at the tenors", textOf(m), likely, first, second)
		}
	}
	if even < 50 || ties < 50 {
		t.Errorf("there are just %d melodies with an even mode of both and %d with as many tenors", even, ties)
	}
}

func TestP51ModeLikelyEdges(t *testing.T) {
	for _, c := range []struct {
		m    string
		mode int
	}{
		{"D0", 1}, {"E0", 3}, {"F0", 5}, {"G1", 7}, {"D0 F0 A1 A1 G1 F0 E0 D0", 1},
		{"A1 F0 D0", 1}, {"F0 A1 F0 D0", 2}, {"A1 F0 A1 F0 D0", 1}, {"F0 D0", 2}, {"F0 C1 D0", 1}, {"A1 A0 D0", 2},
		{"A1 C1 E0", 3}, {"A1 E0", 4}, {"C1 A1 A1 E0", 4}, {"D1 A1 E0", 3}, {"C1 C1 C0 E0", 4},
		{"C1 A1 F0", 5}, {"A1 F0", 6}, {"C1 A1 A1 F0", 6}, {"E1 A1 F0", 5},
		{"D1 C1 G1", 7}, {"C1 D1 C1 G1", 8}, {"C1 G1", 8}, {"D1 G1", 7}, {"F1 C1 G1", 7}, {"D1 D1 D0 G1", 8},
		{"D0 D0 D1 D1 A1 A0 D0", 0}, {"b1 D0", 1}, {"A1 A2 D0", 0}, {"F1 A0 F0 D0", 0},
		{strings.Repeat("F0 A1 ", 11) + "F0 D0", 2}, {strings.Repeat("F0 A1 ", 11) + "D0 D0", 1},
	} {
		likely, ok := impl.ModeLikely(tonesOf(t, c.m))
		if likely != c.mode || ok != (c.mode > 0) {
			t.Errorf("ModeLikely(%s) = %d, %v; want %d", c.m, likely, ok, c.mode)
		}
	}
}

func TestP52ModeMoves(t *testing.T) {
	many := map[int]int{}
	for _, m := range modeTestMelodies() {
		if len(m) == 0 {
			continue
		}
		moves := impl.ModeMoves(m)
		many[len(moves)]++
		if !slices.Equal(moves, modeMovesOf(m)) {
			t.Errorf("ModeMoves(%s) = %v; want %v", textOf(m), moves, modeMovesOf(m))
		}
		for _, k := range moves {
			moved, ok := impl.MelodyMove(m, k)
			if final := m[len(m)-1].Step + k; !ok || final < 4 || final > 7 || len(impl.ModeAll(moved)) == 0 {
				t.Errorf("ModeMoves(%s) = %v, but %d leads to %s", textOf(m), moves, k, textOf(moved))
			}
		}
		if stays, ok := impl.MelodyMove(m, 0); slices.Contains(moves, 0) != (ok && len(impl.ModeAll(stays)) > 0) {
			t.Errorf("ModeMoves(%s) = %v does not agree with MelodyMove by 0", textOf(m), moves)
		}
	}
	for _, n := range []int{0, 1, 2, 3, 4} {
		if many[n] < 20 {
			t.Errorf("the melodies have too few moves: %v", many)
		}
	}
}

func TestP52ModeMovesEdges(t *testing.T) {
	for _, c := range []struct {
		m     string
		moves []int
	}{
		{"", nil}, {"D0", []int{0, 1, 2, 3}}, {"G1", []int{-3, -2, -1, 0}}, {"G0", []int{4, 5, 6, 7}}, {"F2", []int{-16, -15, -14, -13}}, {"E2", []int{-15, -14, -13, -12}},
		{"B0", []int{2, 3, 4, 5}}, {"b0", []int{2, 3, 4, 5}}, {"b2", []int{-12, -11, -10, -9}},
		{"D0 F0 D0", []int{0, 1, 3}}, {"A1 C1 A1", []int{-4, -3, -1}}, {"B0 b0", nil}, {"b0 B0", nil}, {"b1 B1 b1", nil},
		{"b1 A1", []int{-3}}, {"B1 A1", []int{-4, -2, -1}}, {"F0 E0", []int{0}}, {"F1 E1", []int{-7}}, {"E0 F0 E0", []int{0}},
		{"G0 F2", nil}, {"F2 G0", nil}, {"C0 B0", []int{3}}, {"C0 b0", []int{2, 4, 5}},
	} {
		if moves := impl.ModeMoves(tonesOf(t, c.m)); !slices.Equal(moves, c.moves) {
			t.Errorf("ModeMoves(%s) = %v; want %v", c.m, moves, c.moves)
		}
	}
}

func TestP53TonaryValid(t *testing.T) {
	for _, list := range someTonaries() {
		if !impl.TonaryValid(list) {
			t.Errorf("TonaryValid(%s) does not hold", textOfEntries(list))
		}
		for k := range len(list) + 1 {
			if !impl.TonaryValid(list[:k]) || !impl.TonaryValid(list[k:]) {
				t.Errorf("TonaryValid does not hold for both parts of %s behind %d", textOfEntries(list), k)
			}
		}
		for i, e := range list {
			if impl.TonaryValid(slices.Insert(slices.Clone(list), i, e)) {
				t.Errorf("TonaryValid(%s) holds with the entry %d twice", textOfEntries(list), i)
			}
		}
		all := []impl.Entry{}
		for mode := 1; mode <= 8; mode++ {
			all = append(all, impl.TonaryMode(list, mode)...)
		}
		if !sameEntries(all, list) {
			t.Errorf("the modes of %s have %s", textOfEntries(list), textOfEntries(all))
		}
	}
}

func TestP53TonaryMode(t *testing.T) {
	for _, list := range someTonaries() {
		for mode := -1; mode <= 10; mode++ {
			want := slices.DeleteFunc(slices.Clone(list), func(e impl.Entry) bool { return e.Mode != mode })
			if got := impl.TonaryMode(list, mode); !sameEntries(got, want) {
				t.Errorf("TonaryMode(%s, %d) = %s", textOfEntries(list), mode, textOfEntries(got))
			}
		}
		for _, mode := range noModes() {
			if got := impl.TonaryMode(list, mode); len(got) != 0 {
				t.Errorf("TonaryMode(%s, %d) = %s", textOfEntries(list), mode, textOfEntries(got))
			}
		}
	}
}

func TestP53TonaryValidEdges(t *testing.T) {
	for _, text := range []string{"", "1 a D0", "8 zzzzzzzzzz D0 E0 F0 G1 A1 b1 B1 C1", "1 a b0,1 aa b0,1 b b0", "1 z D0,2 a D0", "1 abcdefghi D0,1 abcdefghij D0", "1 a D0,2 a D0,3 a D0,4 a D0,5 a D0,6 a D0,7 a D0,8 a D0",
		"7 ave D0,8 ave F2", "1 aaaaaaaaaa G0,1 b G0", "1 aaaaaaaaaa G0,1 aaaaaaaaab G0"} {
		if list := entriesOf(t, text); !impl.TonaryValid(list) {
			t.Errorf("TonaryValid(%s) does not hold", text)
		}
	}
	if !impl.TonaryValid(nil) {
		t.Errorf("TonaryValid does not hold for no entries")
	}
}

func TestP53NoTonaries(t *testing.T) {
	for i, list := range noTonaries(t) {
		if isTonary(list) {
			t.Fatalf("the list %d is a tonary: %v", i, list)
		}
		if impl.TonaryValid(list) {
			t.Errorf("TonaryValid(%v) holds", list)
		}
		for mode := 1; mode <= 8; mode++ {
			if got := impl.TonaryMode(list, mode); len(got) != 0 {
				t.Errorf("TonaryMode(%v, %d) = %v", list, mode, got)
			}
		}
		if len(list) == 0 {
			continue
		}
		for _, m := range [][]impl.Tone{{}, {{Step: 4}}} {
			if got := impl.TonaryFind(list, m); len(got) != 0 {
				t.Errorf("TonaryFind(%v, %v) = %v", list, m, got)
			}
		}
		checkNoTonary(t, list)
	}
}

// checkNoTonary is for a list that is no tonary, with entries that are valid and one that is not.
func checkNoTonary(t *testing.T, list []impl.Entry) {
	t.Helper()
	for _, e := range []impl.Entry{goodEntry(t), {Name: "yes", Mode: 5, Start: tonesOf(t, "F0")}, {}, list[0]} {
		if got, ok := impl.TonaryAdd(list, e); ok || len(got) != 0 {
			t.Errorf("TonaryAdd(%v, %v) = %v, %v", list, e, got, ok)
		}
	}
	for _, e := range list {
		if got, ok := impl.TonaryDrop(list, e.Mode, e.Name); ok || len(got) != 0 {
			t.Errorf("TonaryDrop(%v, %d, %s) = %v, %v", list, e.Mode, e.Name, got, ok)
		}
	}
	for _, other := range [][]impl.Entry{{}, {goodEntry(t)}, list} {
		x, ok := impl.TonaryJoin(list, other)
		y, fine := impl.TonaryJoin(other, list)
		if ok || fine || len(x) != 0 || len(y) != 0 {
			t.Errorf("TonaryJoin(%v, %v) = %v, %v, and exchanged %v, %v", list, other, x, ok, y, fine)
		}
	}
}

// withEntry puts an entry into entries where its key is in order.
func withEntry(list []impl.Entry, e impl.Entry) []impl.Entry {
	more := append(slices.Clone(list), e)
	slices.SortStableFunc(more, func(a, b impl.Entry) int { return strings.Compare(keyOf(a), keyOf(b)) })
	return more
}

func TestP54TonaryAdd(t *testing.T) {
	r := rand.New(rand.NewPCG(20, 54))
	added, refused := 0, 0
	for _, list := range someTonaries() {
		for range 8 {
			e := drawnEntries(r, 1, 8)[0]
			want := withEntry(list, e)
			got, ok := impl.TonaryAdd(list, e)
			if ok != isTonary(want) || ok && !sameEntries(got, want) || !ok && len(got) != 0 {
				t.Errorf("TonaryAdd(%s, %v) = %s, %v", textOfEntries(list), e, textOfEntries(got), ok)
				continue
			}
			if !ok {
				refused++
				continue
			}
			added++
			checkAdded(t, list, e, got)
		}
	}
	if added < 500 || refused < 50 {
		t.Errorf("just %d entries were added and %d refused", added, refused)
	}
}

// checkAdded is for a tonary to which an entry has been added.
func checkAdded(t *testing.T, list []impl.Entry, e impl.Entry, more []impl.Entry) {
	t.Helper()
	if !impl.TonaryValid(more) || len(more) != len(list)+1 {
		t.Errorf("TonaryAdd(%s, %v) = %s", textOfEntries(list), e, textOfEntries(more))
	}
	if back, ok := impl.TonaryDrop(more, e.Mode, e.Name); !ok || !sameEntries(back, list) {
		t.Errorf("TonaryDrop(%s, %d, %s) = %s, %v", textOfEntries(more), e.Mode, e.Name, textOfEntries(back), ok)
	}
	if again, ok := impl.TonaryAdd(more, e); ok || len(again) != 0 {
		t.Errorf("TonaryAdd(%s, %v) = %s, %v", textOfEntries(more), e, textOfEntries(again), ok)
	}
	found := impl.TonaryFind(more, e.Start)
	if !slices.Contains(found, slices.IndexFunc(more, func(x impl.Entry) bool { return sameEntry(x, e) })) {
		t.Errorf("TonaryFind(%s, %s) = %v", textOfEntries(more), textOf(e.Start), found)
	}
}

func TestP54TonaryAddEdges(t *testing.T) {
	for _, c := range []struct {
		list, e, want string
	}{
		{"", "1 a D0", "1 a D0"}, {"", "8 zzzzzzzzzz D0 E0 F0 G1 A1 b1 B1 C1", "8 zzzzzzzzzz D0 E0 F0 G1 A1 b1 B1 C1"},
		{"1 deus D0 F0 A1", "1 ave D0 F0", "1 ave D0 F0,1 deus D0 F0 A1"}, {"1 ave D0", "2 ave D0", "1 ave D0,2 ave D0"}, {"2 ave D0", "1 ave D0", "1 ave D0,2 ave D0"}, {"1 z D0,3 a D0", "2 m D0", "1 z D0,2 m D0,3 a D0"},
		{"1 ave D0", "1 av D0", "1 av D0,1 ave D0"}, {"1 ave D0", "1 avea D0", "1 ave D0,1 avea D0"}, {"1 a D0,1 b D0", "1 aaaaaaaaaa D0", "1 a D0,1 aaaaaaaaaa D0,1 b D0"},
		{"1 ave D0", "1 ave D0", ""}, {"1 ave D0", "1 ave D0 F0", ""}, {"1 ave D0", "1 ave E0", ""}, {"1 ave D0 F0", "1 ave D0", ""},
		{"", "0 a D0", ""}, {"", "9 a D0", ""}, {"", "1 abcdefghijk D0", ""}, {"", "1 a", ""}, {"", "1 A D0", ""}, {"", "1 a D0 E0 F0 G1 A1 B1 C1 D1 E1", ""},
	} {
		list, e := entriesOf(t, c.list), entryOf(t, c.e)
		got, ok := impl.TonaryAdd(list, e)
		if ok != (c.want != "") || textOfEntries(got) != c.want {
			t.Errorf("TonaryAdd(%s, %s) = %v, %v; want %s", c.list, c.e, got, ok, c.want)
		}
	}
}

func TestP54FullTonaries(t *testing.T) {
	r := rand.New(rand.NewPCG(21, 54))
	for range 50 {
		all := drawnEntries(r, 21, 8)
		i := r.IntN(21)
		full := slices.Delete(slices.Clone(all), i, i+1)
		if got, ok := impl.TonaryAdd(full, all[i]); ok || len(got) != 0 {
			t.Errorf("TonaryAdd to 20 entries = %s, %v", textOfEntries(got), ok)
		}
		k := r.IntN(20)
		if got, ok := impl.TonaryAdd(slices.Delete(slices.Clone(full), k, k+1), full[k]); !ok || !sameEntries(got, full) {
			t.Errorf("TonaryAdd to 19 entries = %s, %v", textOfEntries(got), ok)
		}
	}
}

func TestP54InvalidEntries(t *testing.T) {
	tonaries := [][]impl.Entry{{}, entriesOf(t, "1 a D0"), entriesOf(t, "3 ave E0,3 zz E0,8 a D0")}
	for i, e := range badEntries(t) {
		if isEntry(e) {
			t.Fatalf("the entry %d is one: %v", i, e)
		}
		for _, list := range tonaries {
			if got, ok := impl.TonaryAdd(list, e); ok || len(got) != 0 {
				t.Errorf("TonaryAdd(%s, %v) = %v, %v", textOfEntries(list), e, got, ok)
			}
		}
	}
}

func TestP55TonaryDrop(t *testing.T) {
	for _, list := range someTonaries() {
		for i, e := range list {
			less, ok := impl.TonaryDrop(list, e.Mode, e.Name)
			if !ok || !sameEntries(less, slices.Delete(slices.Clone(list), i, i+1)) {
				t.Errorf("TonaryDrop(%s, %d, %s) = %s, %v", textOfEntries(list), e.Mode, e.Name, textOfEntries(less), ok)
			}
			if back, ok := impl.TonaryAdd(less, e); !ok || !sameEntries(back, list) {
				t.Errorf("TonaryAdd(%s, %v) = %s, %v", textOfEntries(less), e, textOfEntries(back), ok)
			}
			checkNotDropped(t, less, e.Mode, e.Name)
		}
	}
}

// checkNotDropped is for a tonary without such an entry.
func checkNotDropped(t *testing.T, list []impl.Entry, mode int, name string) {
	t.Helper()
	if got, ok := impl.TonaryDrop(list, mode, name); ok || len(got) != 0 {
		t.Errorf("TonaryDrop(%s, %d, %.20q) = %s, %v", textOfEntries(list), mode, name, textOfEntries(got), ok)
	}
}

func TestP55NothingToDrop(t *testing.T) {
	list := entriesOf(t, "1 ave D0,1 deus D0,3 ave E0,3 avea E0,8 zzzzzzzzzz G1")
	for mode := -1; mode <= 10; mode++ {
		for _, name := range []string{"", "a", "av", "ave", "avea", "aveb", "d", "deus", "deusa", "z", "zzzzzzzzzz", "zzzzzzzzzzz", "Ave", "ave "} {
			if !slices.ContainsFunc(list, func(e impl.Entry) bool { return e.Mode == mode && e.Name == name }) {
				checkNotDropped(t, list, mode, name)
			}
		}
	}
	for _, mode := range noModes() {
		checkNotDropped(t, list, mode, "ave")
		checkNotDropped(t, nil, mode, "")
	}
	for _, name := range badNames() {
		checkNotDropped(t, list, 1, name)
		checkNotDropped(t, []impl.Entry{}, 1, name)
	}
}

// foundOf tells what TonaryFind returns for a tonary and a melody, made without the program's own functions.
func foundOf(list []impl.Entry, m []impl.Tone) []int {
	found := []int{}
	for i, e := range list {
		if len(e.Start) < len(m) {
			continue
		}
		begin := e.Start[:len(m)]
		if slices.Equal(stepsOf(begin), stepsOf(m)) && slices.Equal(semisOf(begin), semisOf(m)) {
			found = append(found, i)
		}
	}
	return found
}

// soughtIn are the beginnings of all entries, moved ones, others of the same steps alone, and longer ones.
func soughtIn(list []impl.Entry) [][]impl.Tone {
	melodies := [][]impl.Tone{{}}
	for _, e := range list {
		for n := 1; n <= len(e.Start); n++ {
			begin := e.Start[:n]
			melodies = append(melodies, begin, append(slices.Clone(begin), e.Start[0]))
			for _, k := range []int{-7, -3, 1, 4, 7} {
				if moved, ok := movedOf(begin, k); ok {
					melodies = append(melodies, moved)
				}
			}
			if other := begin[n-1]; other.Step%7 == 2 {
				other.Soft = !other.Soft
				melodies = append(melodies, replaced(begin, n-1, other))
			}
		}
	}
	return melodies
}

func TestP56TonaryFind(t *testing.T) {
	several := 0
	for i, list := range someTonaries() {
		if i%3 > 0 {
			continue
		}
		for _, m := range soughtIn(list) {
			found := impl.TonaryFind(list, m)
			if !slices.Equal(found, foundOf(list, m)) {
				t.Errorf("TonaryFind(%s, %s) = %v; want %v", textOfEntries(list), textOf(m), found, foundOf(list, m))
			}
			if len(found) > 1 && len(m) > 1 {
				several++
			}
			checkFound(t, list, m, found)
		}
	}
	if several < 100 {
		t.Errorf("just %d melodies find several entries", several)
	}
}

func checkFound(t *testing.T, list []impl.Entry, m []impl.Tone, found []int) {
	t.Helper()
	for _, i := range found {
		if len(list[i].Start) < len(m) || !impl.MelodySame(list[i].Start[:len(m)], m) {
			t.Errorf("TonaryFind(%s, %s) = %v, but %d does not begin so", textOfEntries(list), textOf(m), found, i)
		}
	}
	for n := range len(m) {
		fewer := impl.TonaryFind(list, m[:n])
		if slices.ContainsFunc(found, func(i int) bool { return !slices.Contains(fewer, i) }) {
			t.Errorf("TonaryFind(%s, %s) = %v, but for %d tones %v", textOfEntries(list), textOf(m), found, n, fewer)
		}
	}
	for _, k := range []int{-7, -1, 2, 3, 7} {
		moved, ok := impl.MelodyMove(m, k)
		if again := impl.TonaryFind(list, moved); ok && !slices.Equal(again, found) {
			t.Errorf("TonaryFind(%s, %s) = %v; moved by %d it is %v", textOfEntries(list), textOf(m), found, k, again)
		}
	}
}

func TestP56TonaryFindEdges(t *testing.T) {
	list := entriesOf(t, "1 ave D0 F0,1 deus D0 F0 A1,2 a b1,3 ave E0 F0,5 kyrie C1 b1,5 z C1 B1,6 long F0 G1 A1 b1 C1 D1 E1 F1")
	for _, c := range []struct {
		m     string
		found []int
	}{
		{"", []int{0, 1, 2, 3, 4, 5, 6}}, {"D0", []int{0, 1, 2, 3, 4, 5, 6}}, {"b0", []int{0, 1, 2, 3, 4, 5, 6}}, {"F2", []int{0, 1, 2, 3, 4, 5, 6}},
		{"D0 F0", []int{0, 1}}, {"A1 C1", []int{0, 1}}, {"E0 G1", []int{0, 1}}, {"C0 E0", nil}, {"A1 C1 E1", []int{1}}, {"D0 F0 A1 D0", nil}, {"D0 F0 G1", nil},
		{"B0 C0", []int{3}}, {"A1 b1", []int{3}}, {"A1 B1", []int{6}}, {"b1 B1", nil}, {"D0 C0", []int{4}}, {"F0 E0", []int{5}}, {"C0 b0", []int{4}},
		{"C0 D0 E0 F0 G1 A1 B1 C1", []int{6}}, {"C0 D0 E0 F0 G1 A1 b1 C1", nil}, {"C0 D0 E0 F0 G1 A1 B1 C1 D1", nil}, {"F0 G1 A1 b1 C1 D1 E1 F1", []int{6}}, {"F0 G1 A1 b1 C1 D1 E1", []int{6}}, {"F0 G1 A1 B1", nil},
		{strings.Repeat("D0 ", 24), nil},
	} {
		if found := impl.TonaryFind(list, tonesOf(t, c.m)); !slices.Equal(found, c.found) {
			t.Errorf("TonaryFind(%s) = %v; want %v", c.m, found, c.found)
		}
	}
	if found := impl.TonaryFind(nil, []impl.Tone{}); len(found) != 0 {
		t.Errorf("TonaryFind in no entries = %v", found)
	}
}

func TestP56NoMelodies(t *testing.T) {
	for _, text := range []string{"", "1 a D0", "1 a D0 F0 G1,2 b D0 D0 D0 D0 D0 D0 D0 D0"} {
		list := entriesOf(t, text)
		for _, m := range noMelodies(t) {
			if found := impl.TonaryFind(list, m); len(found) != 0 {
				t.Errorf("TonaryFind(%s, %v) = %v", text, m, found)
			}
		}
	}
}

// joinedEntriesOf tells what TonaryJoin returns for two tonaries, made without the program's own functions.
func joinedEntriesOf(a, b []impl.Entry) ([]impl.Entry, bool) {
	byKey := map[string]impl.Entry{}
	for _, e := range slices.Concat(a, b) {
		if other, ok := byKey[keyOf(e)]; ok && !sameEntry(e, other) {
			return nil, false
		}
		byKey[keyOf(e)] = e
	}
	if len(byKey) > 20 {
		return nil, false
	}
	return sortedEntries(byKey), true
}

// drawnPair are two tonaries with equal entries among them, and sometimes one with another Start.
func drawnPair(r *rand.Rand) ([]impl.Entry, []impl.Entry) {
	all := drawnEntries(r, r.IntN(24), 1+r.IntN(8)/2+2)
	a, b := []impl.Entry{}, []impl.Entry{}
	for _, e := range all {
		if where := r.IntN(3); where == 0 {
			a = append(a, e)
		} else if where == 1 {
			b = append(b, e)
		} else {
			a = append(a, e)
			if r.IntN(16) == 0 {
				e.Start = drawnStart(r)
			}
			b = append(b, e)
		}
	}
	return a[:min(20, len(a))], b[:min(20, len(b))]
}

func TestP57TonaryJoin(t *testing.T) {
	r := rand.New(rand.NewPCG(20, 57))
	joined, refused := 0, 0
	for range 1500 {
		a, b := drawnPair(r)
		want, is := joinedEntriesOf(a, b)
		got, ok := impl.TonaryJoin(a, b)
		if ok != is || !sameEntries(got, want) {
			t.Errorf("TonaryJoin(%s, %s) = %s, %v", textOfEntries(a), textOfEntries(b), textOfEntries(got), ok)
		}
		back, fine := impl.TonaryJoin(b, a)
		if fine != ok || !sameEntries(back, got) {
			t.Errorf("TonaryJoin(%s, %s) = %s, exchanged %s", textOfEntries(a), textOfEntries(b), textOfEntries(got), textOfEntries(back))
		}
		if !ok {
			refused++
			continue
		}
		joined++
		checkJoined(t, a, b, got)
	}
	if joined < 500 || refused < 200 {
		t.Errorf("just %d pairs were joined and %d refused", joined, refused)
	}
}

// checkJoined is for two tonaries that have been joined.
func checkJoined(t *testing.T, a, b, both []impl.Entry) {
	t.Helper()
	if !impl.TonaryValid(both) {
		t.Errorf("TonaryJoin(%s, %s) = %s", textOfEntries(a), textOfEntries(b), textOfEntries(both))
	}
	for _, one := range [][]impl.Entry{a, b, both, {}} {
		x, ok := impl.TonaryJoin(both, one)
		y, fine := impl.TonaryJoin(one, both)
		if !ok || !fine || !sameEntries(x, both) || !sameEntries(y, both) {
			t.Errorf("TonaryJoin(%s, %s) = %s, exchanged %s", textOfEntries(both), textOfEntries(one), textOfEntries(x), textOfEntries(y))
		}
	}
	all, ok := a, true
	for _, e := range b {
		if slices.ContainsFunc(a, func(x impl.Entry) bool { return sameEntry(x, e) }) {
			continue
		}
		if all, ok = impl.TonaryAdd(all, e); !ok {
			t.Errorf("%v cannot be added one by one", e)
		}
	}
	if !sameEntries(all, both) {
		t.Errorf("adding one by one leads to %s, and TonaryJoin to %s", textOfEntries(all), textOfEntries(both))
	}
}

func TestP57TonaryJoinEdges(t *testing.T) {
	for _, c := range []struct {
		a, b, want string
		ok         bool
	}{
		{"", "", "", true}, {"1 a D0", "", "1 a D0", true}, {"1 a D0", "1 a D0", "1 a D0", true}, {"1 a D0", "2 a D0", "1 a D0,2 a D0", true}, {"2 a D0", "1 b E0", "1 b E0,2 a D0", true},
		{"1 a D0", "1 a E0", "", false}, {"1 a D0", "1 a D0 E0", "", false}, {"1 a D0 E0", "1 a D0", "", false}, {"1 a b1", "1 a B1", "", false}, {"1 a D0,1 b D0", "1 b E0", "", false}, {"1 a D0", "1 a D1", "", false},
		{"1 ave D0,3 ave E0", "1 av D0,1 avea D0", "1 av D0,1 ave D0,1 avea D0,3 ave E0", true}, {"1 a D0,1 c D0", "1 b D0,1 c D0,1 d D0", "1 a D0,1 b D0,1 c D0,1 d D0", true},
		{"8 a G1", "1 z D0", "1 z D0,8 a G1", true}, {"1 a D0,8 a G1", "1 a D0,8 a G1", "1 a D0,8 a G1", true},
		{"1 a D0", "9 a D0", "", false}, {"1 b D0,1 a D0", "1 a D0", "", false}, {"1 a D0,1 a D0", "", "", false}, {"", "0 a D0", "", false}, {"1 a D0", "1 a", "", false}, {"1 b D0,1 a D0", "1 b D0,1 a D0", "", false},
	} {
		a, b := entriesOf(t, c.a), entriesOf(t, c.b)
		for range 2 {
			if got, ok := impl.TonaryJoin(a, b); ok != c.ok || textOfEntries(got) != c.want {
				t.Errorf("TonaryJoin(%s, %s) = %v, %v; want %s, %v", textOfEntries(a), textOfEntries(b), got, ok, c.want, c.ok)
			}
			a, b = b, a
		}
	}
}

func TestP57FullTonaries(t *testing.T) {
	r := rand.New(rand.NewPCG(21, 57))
	for n := 20; n <= 40; n++ {
		all := drawnEntries(r, n, 8)
		for first := n - 20; first <= 20; first++ {
			got, ok := impl.TonaryJoin(all[:first], all[first:])
			back, fine := impl.TonaryJoin(all[first:], all[:first])
			if ok != (n == 20) || fine != ok || ok && !sameEntries(got, all) || !sameEntries(got, back) {
				t.Errorf("TonaryJoin of %d and %d entries = %v, %v", first, n-first, got, ok)
			}
		}
	}
	full := drawnEntries(r, 20, 8)
	for k := range 21 {
		if got, ok := impl.TonaryJoin(full, full[k:]); !ok || !sameEntries(got, full) {
			t.Errorf("TonaryJoin of 20 entries with the last %d of them = %v, %v", 20-k, got, ok)
		}
	}
}

func TestModeResultsAreNewMemory(t *testing.T) {
	m := tonesOf(t, "D0 F0 A1 D0")
	checkApart(t, "ModeAll", impl.ModeAll(m), impl.ModeAll(m), -9)
	checkApart(t, "ModeMoves", impl.ModeMoves(m), impl.ModeMoves(m), -9)
	list := spareEntries(entriesOf(t, "1 ave D0 F0,1 deus D0 F0 A1,3 z E0,8 a b1 B1"))
	other := spareEntries(entriesOf(t, "1 ave D0 F0,2 deus D0,8 z b1"))
	e := spareEntries(entriesOf(t, "2 new D0 E0"))
	checkApart(t, "TonaryFind", impl.TonaryFind(list, m[:1]), impl.TonaryFind(list, m[:1]), -9)
	for what, call := range map[string]func() []impl.Entry{
		"TonaryAdd":   func() []impl.Entry { got, _ := impl.TonaryAdd(list, e[0]); return got },
		"TonaryDrop":  func() []impl.Entry { got, _ := impl.TonaryDrop(list, 1, "deus"); return got },
		"TonaryMode":  func() []impl.Entry { return impl.TonaryMode(list, 1) },
		"TonaryJoin":  func() []impl.Entry { got, _ := impl.TonaryJoin(list, other); return got },
		"of the same": func() []impl.Entry { got, _ := impl.TonaryJoin(list, list); return got },
		"of nothing":  func() []impl.Entry { got, _ := impl.TonaryJoin(nil, list); return got },
	} {
		checkEntriesApart(t, what, call(), list, other, e, call())
	}
}

// checkEntriesApart changes one Start of a result after another, and then its entries; all other memory must stay.
func checkEntriesApart(t *testing.T, what string, result []impl.Entry, others ...[]impl.Entry) {
	t.Helper()
	if len(result) == 0 {
		t.Errorf("%s returned nothing", what)
	}
	texts := []string{}
	for _, other := range others {
		texts = append(texts, wholeText(other))
	}
	for i := range result {
		was := wholeText(without(result, i))
		start := result[i].Start[:cap(result[i].Start)]
		for k := range start {
			start[k] = noTone
		}
		if wholeText(without(result, i)) != was {
			t.Errorf("two Starts of a result of %s share memory", what)
		}
	}
	result = result[:cap(result)]
	for i := range result {
		result[i] = impl.Entry{Name: "other"}
	}
	for i, other := range others {
		if wholeText(other) != texts[i] {
			t.Errorf("a result of %s shares memory with other entries", what)
		}
	}
}

// without is a copy of entries without one, but with the Starts themselves.
func without(list []impl.Entry, i int) []impl.Entry {
	return slices.Clip(slices.Concat(list[:i], list[i+1:]))
}

// wholeText tells all entries and tones of a list, and what is in the room behind them.
func wholeText(list []impl.Entry) string {
	text := ""
	for _, e := range list[:cap(list)] {
		text += e.Name + string(rune('0'+e.Mode))
		for _, x := range e.Start[:cap(e.Start)] {
			text += " " + string(rune('a'+x.Step+9))
			if x.Soft {
				text += "!"
			}
		}
	}
	return text
}

func TestTonaryArgumentsStay(t *testing.T) {
	for i, list := range someTonaries() {
		other := spareEntries(someTonaries()[len(someTonaries())-1-i])
		e := spareEntries(entriesOf(t, "2 new D0 E0"))
		a := spareEntries(list)
		wasA, wasOther, wasE := wholeText(a), wholeText(other), wholeText(e)
		impl.TonaryValid(a)
		impl.TonaryAdd(a, e[0])
		for _, x := range a {
			impl.TonaryDrop(a, x.Mode, x.Name)
			impl.TonaryAdd(a, x)
		}
		impl.TonaryMode(a, 1)
		impl.TonaryFind(a, e[0].Start)
		impl.TonaryJoin(a, other)
		impl.TonaryJoin(other, a)
		impl.TonaryJoin(a, a)
		if wholeText(a) != wasA || wholeText(other) != wasOther || wholeText(e) != wasE {
			t.Errorf("the arguments have become %v, %v and %v", a, other, e)
		}
	}
	for _, m := range modalMelodies() {
		was, spared := slices.Clone(m), spare(m)
		impl.ModeIn(spared, 1)
		impl.ModeAll(spared)
		impl.ModeLikely(spared)
		impl.ModeMoves(spared)
		if !slices.Equal(spared, was) || slices.ContainsFunc(spared[len(m):cap(spared)], func(x impl.Tone) bool { return x != impl.Tone{} }) {
			t.Errorf("the argument %s has become %v", textOf(was), spared)
		}
	}
}
