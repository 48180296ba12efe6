package tests

import (
	"math/rand/v2"
	"slices"
	"strings"
	"testing"

	"loop.example/neumes/impl"
)

func TestP67EditCost(t *testing.T) {
	costs := map[int]int{}
	for _, p := range allPairs(t) {
		cost := impl.EditCost(p.a, p.b)
		if want := aligned(p.a, p.b).cost; cost != want {
			t.Errorf("EditCost(%s, %s) = %d; want %d", textOf(p.a), textOf(p.b), cost, want)
		}
		if impl.EditCost(p.b, p.a) != cost || impl.EditCost(backOf(p.a), backOf(p.b)) != cost {
			t.Errorf("EditCost(%s, %s) = %d, exchanged %d, and backwards %d", textOf(p.a), textOf(p.b), cost, impl.EditCost(p.b, p.a), impl.EditCost(backOf(p.a), backOf(p.b)))
		}
		if (cost == 0) != slices.Equal(p.a, p.b) || impl.EditCost(p.a, p.a) != 0 {
			t.Errorf("EditCost(%s, %s) = %d, and of the first one and itself %d", textOf(p.a), textOf(p.b), cost, impl.EditCost(p.a, p.a))
		}
		costs[min(cost, 12)]++
	}
	for cost := range 13 {
		if costs[cost] < 20 {
			t.Errorf("too few melodies have the cost %d: %v", cost, costs)
		}
	}
}

func TestP67ThirdMelody(t *testing.T) {
	pairs := allPairs(t)
	for n, p := range pairs {
		thirds := [][]impl.Tone{pairs[(n+17)%len(pairs)].a}
		for i := range len(p.a) + 1 {
			thirds = append(thirds, p.a[:i])
		}
		for i := range len(p.b) + 1 {
			thirds = append(thirds, p.b[:i])
		}
		cost := impl.EditCost(p.a, p.b)
		for _, m := range thirds {
			if over := impl.EditCost(p.a, m) + impl.EditCost(m, p.b); cost > over {
				t.Errorf("EditCost(%s, %s) = %d, but over %s it is %d", textOf(p.a), textOf(p.b), cost, textOf(m), over)
			}
		}
	}
}

// TestP67EditEdges compares cost, text and common tones with what one can tell by hand.
func TestP67EditEdges(t *testing.T) {
	long := func(text string) string { return strings.TrimSpace(strings.Repeat(text+" ", 24)) }
	for _, c := range []struct {
		a, b   string
		cost   int
		text   string
		common int
	}{
		{"", "", 0, "", 0}, {"D0", "", 2, "o", 0}, {"", "D0", 2, "i", 0}, {"D0", "D0", 0, "k", 1},
		{"D0", "E0", 3, "r", 0}, {"E0", "D0", 3, "r", 0}, {"D0", "D1", 3, "r", 0}, {"b1", "B1", 1, "r", 0}, {"B1", "b1", 1, "r", 0}, {"b1", "b1", 0, "k", 1}, {"b1", "b2", 3, "r", 0}, {"b1", "A1", 3, "r", 0}, {"b1", "B0", 3, "r", 0},
		{"D0 F0 b1 A1", "D0 B1 A1 G1", 5, "korki", 2},
		// The common tones cost more than to replace all.
		{"b1 B1", "B1 b1", 2, "rr", 1}, {"B1 b1 B1", "b1 B1 b1", 3, "rrr", 2}, {"b1 B1 b1 B1 b1", "B1 b1 B1 b1 B1", 4, "ikkkko", 4}, {"b1 B1 b1 B1", "B1 b1 B1 b1", 4, "ikkko", 3},
		// The first letters differ, of as little cost.
		{"D0 D0", "D0", 2, "ko", 1}, {"D0", "D0 D0", 2, "ik", 1}, {"D0 E0", "E0 D0", 4, "iko", 1}, {"D0 D0 D0", "D0", 4, "koo", 1}, {"D0", "D0 D0 D0", 4, "iik", 1},
		{"D0", "E0 F0", 5, "ir", 0}, {"D0 E0", "F0", 5, "or", 0}, {"b1 B1", "B1", 2, "ok", 1}, {"B1 b1", "B1", 2, "ko", 1}, {"b1 b1", "B1", 3, "or", 0}, {"b1", "B1 B1", 3, "ir", 0},
		// The later ones differ.
		{"D0 E0 E0", "D0 E0", 2, "kko", 2}, {"D0 E0 F0", "D0 F0 E0", 4, "kiko", 2}, {"D0 E0", "D0 F0 G1", 5, "kir", 1}, {"A1 D0 E0", "A1 F0", 5, "kor", 1}, {"G1 b1 b1", "G1 B1", 3, "kor", 1}, {"D0 E0 F0 F0", "D0 E0 F0", 2, "kkko", 3},
		// A Soft tone beside equal ones and beside other ones.
		{"A1 b1 A1", "A1 B1 A1", 1, "krk", 2}, {"A1 b1 C1", "A1 B1 D1", 4, "krr", 1}, {"b1 b1 b1", "b1 B1 b1", 1, "krk", 2}, {"G1 b1 A1", "B1 A1", 3, "ork", 1}, {"b1 A1", "G1 B1 A1", 3, "irk", 1}, {"b1 C1", "C1 B1", 4, "oki", 1}, {"C1 B1", "b1 C1", 4, "iko", 1},
		{long("D0"), long("D0"), 0, strings.Repeat("k", 24), 24}, {long("D0"), long("E0"), 72, strings.Repeat("r", 24), 0}, {long("b1"), long("B1"), 24, strings.Repeat("r", 24), 0},
		{long("D0"), "", 48, strings.Repeat("o", 24), 0}, {"", long("D0"), 48, strings.Repeat("i", 24), 0}, {long("D0"), "D0", 46, "k" + strings.Repeat("o", 23), 1}, {"D0", long("D0"), 46, strings.Repeat("i", 23) + "k", 1},
		{long("D0"), "E0", 49, strings.Repeat("o", 23) + "r", 0}, {"E0", long("D0"), 49, strings.Repeat("i", 23) + "r", 0},
	} {
		a, b := tonesOf(t, c.a), tonesOf(t, c.b)
		text, ok := impl.EditText(a, b)
		want := aligned(a, b)
		if cost, common := impl.EditCost(a, b), impl.EditCommon(a, b); cost != c.cost || !ok || text != c.text || common != c.common || (want != alignedOf{c.cost, c.text, c.common}) {
			t.Errorf("of %q and %q, the cost is %d, the text %q, and the common tones %d; want %v", c.a, c.b, cost, text, common, c)
		}
	}
}

func TestP67NoMelodies(t *testing.T) {
	for _, bad := range noMelodies(t) {
		for _, text := range []string{"", "D0", "D0 F0 G1"} {
			good := tonesOf(t, text)
			checkNoEdits(t, bad, good)
			checkNoEdits(t, good, bad)
		}
		checkNoEdits(t, bad, bad)
	}
	full := repeated(t, "D0", 24)
	long := append(slices.Clone(full), full[0])
	checkNoEdits(t, long, full)
	checkNoEdits(t, full, long)
	// The flaw is in a tone that an edit does not go through.
	for _, bad := range []impl.Tone{{Step: 4, Soft: true}, {Step: -1}, {Step: 21}} {
		checkNoEdits(t, []impl.Tone{full[0], bad}, full[:1])
		checkNoEdits(t, full[:1], []impl.Tone{full[0], bad})
	}
}

func TestP68EditText(t *testing.T) {
	several := 0
	for _, p := range allPairs(t) {
		text, ok := impl.EditText(p.a, p.b)
		if want := aligned(p.a, p.b).text; !ok || text != want {
			t.Errorf("EditText(%s, %s) = %q, %v; want %q", textOf(p.a), textOf(p.b), text, ok, want)
			continue
		}
		if cost := impl.EditCost(p.a, p.b); impl.EditSum(p.a, p.b, text) != cost || !impl.EditOk(p.a, p.b, text) || sumOfEdits(p.a, p.b, text) != cost {
			t.Errorf("EditText(%s, %s) = %q, of the cost %d, but EditSum is %d", textOf(p.a), textOf(p.b), text, cost, impl.EditSum(p.a, p.b, text))
		}
		if out, in := strings.Count(text, "o"), strings.Count(text, "i"); len(text)-in != len(p.a) || len(text)-out != len(p.b) {
			t.Errorf("EditText(%s, %s) = %q", textOf(p.a), textOf(p.b), text)
		}
		if back, _ := impl.EditText(backOf(p.a), backOf(p.b)); string(backOf([]byte(back))) != text {
			several++
		}
	}
	if several < 200 {
		t.Errorf("just %d melodies have another text backwards", several)
	}
}

func TestP69EditSum(t *testing.T) {
	equal := 0
	for _, p := range nearPairs(t) {
		cost, common := impl.EditCost(p.a, p.b), impl.EditCommon(p.a, p.b)
		best, _ := impl.EditText(p.a, p.b)
		most, least := 0, 1000
		for _, text := range alignmentsOf(p.a, p.b) {
			sum := impl.EditSum(p.a, p.b, text)
			if sum != sumOfEdits(p.a, p.b, text) || sum < cost || impl.EditSum(p.b, p.a, exchangedText(text)) != sum || !impl.EditOk(p.a, p.b, text) {
				t.Errorf("EditSum(%s, %s, %q) = %d, exchanged %d; EditCost is %d", textOf(p.a), textOf(p.b), text, sum, impl.EditSum(p.b, p.a, exchangedText(text)), cost)
			}
			if sum == cost && text != best {
				equal++
				if text < best {
					t.Errorf("EditText(%s, %s) = %q, but %q has the same cost", textOf(p.a), textOf(p.b), best, text)
				}
			}
			most, least = max(most, strings.Count(text, "k")), min(least, sum)
		}
		if most != common || least != cost {
			t.Errorf("of %s and %s, the most common tones are %d and the least cost %d, but EditCommon is %d and EditCost %d", textOf(p.a), textOf(p.b), most, least, common, cost)
		}
	}
	if equal < 1000 {
		t.Errorf("just %d alignments have the least cost, too", equal)
	}
}

// TestP69EditOk holds all short texts against the alignments.
func TestP69EditOk(t *testing.T) {
	texts := []string{""}
	for n := 0; len(texts[n]) < 5; n++ {
		for _, letter := range []string{"i", "k", "o", "r", "x"} {
			texts = append(texts, texts[n]+letter)
		}
	}
	few := melodiesUpTo(tonesOf(t, "b1 B1"), 2)
	few = append(few, tonesOf(t, "b1 B1 A1"), tonesOf(t, "A1 B1 b1"))
	for _, a := range few {
		for _, b := range few {
			all := alignmentsOf(a, b)
			for _, text := range texts {
				_, is := slices.BinarySearch(all, text)
				if !is {
					checkNotAligned(t, a, b, text)
				} else if !impl.EditOk(a, b, text) || impl.EditSum(a, b, text) != sumOfEdits(a, b, text) {
					t.Errorf("EditSum(%s, %s, %q) = %d", textOf(a), textOf(b), text, impl.EditSum(a, b, text))
				}
			}
		}
	}
}

func TestP69EditOkEdges(t *testing.T) {
	for _, c := range []struct {
		a, b, text string
		sum        int
	}{
		{"", "", "", 0}, {"D0 F0 b1 A1", "D0 B1 A1 G1", "korki", 5}, {"D0 F0 b1 A1", "D0 B1 A1 G1", "krrr", 9}, {"D0 F0 b1 A1", "D0 B1 A1 G1", "ooooiiii", 16}, {"D0 F0 b1 A1", "D0 B1 A1 G1", "iiiioooo", 16}, {"D0 F0 b1 A1", "D0 B1 A1 G1", "oioioioi", 16},
		{"D0", "D0", "r", -1}, {"b1", "B1", "k", -1}, {"D0", "E0", "k", -1}, {"b1", "b1", "r", -1}, {"D0", "D0", "oi", 4}, {"D0", "D0", "io", 4},
		{"D0 F0 b1 A1", "D0 B1 A1 G1", "kkkk", -1}, {"D0 F0 b1 A1", "D0 B1 A1 G1", "kork", -1}, {"D0 F0 b1 A1", "D0 B1 A1 G1", "korkii", -1}, {"D0 F0 b1 A1", "D0 B1 A1 G1", "korkik", -1}, {"D0 F0 b1 A1", "D0 B1 A1 G1", "korkio", -1}, {"D0 F0 b1 A1", "D0 B1 A1 G1", "rorki", -1}, {"D0 F0 b1 A1", "D0 B1 A1 G1", "", -1},
		{"D0", "D0", "", -1}, {"D0", "D0", "kk", -1}, {"D0", "D0", "K", -1}, {"D0", "D0", "k ", -1}, {"D0", "D0", " k", -1}, {"D0", "D0", "k\x00", -1}, {"D0", "D0", "\xff", -1}, {"D0", "D0", "d", -1}, {"D0", "D0", "o", -1}, {"D0", "D0", "i", -1}, {"D0", "E0", "s", -1}, {"D0", "E0", "R", -1}, {"D0", "", "O", -1}, {"", "D0", "I", -1},
		{"", "", "k", -1}, {"", "", "r", -1}, {"", "", "o", -1}, {"", "", "i", -1}, {"D0", "", "i", -1}, {"", "D0", "o", -1}, {"D0", "", "k", -1}, {"", "D0", "r", -1}, {"D0", "", "r", -1}, {"", "D0", "k", -1},
	} {
		a, b := tonesOf(t, c.a), tonesOf(t, c.b)
		if sum := impl.EditSum(a, b, c.text); sum != c.sum || impl.EditOk(a, b, c.text) != (c.sum >= 0) {
			t.Errorf("EditSum(%q, %q, %q) = %d; want %d", c.a, c.b, c.text, sum, c.sum)
		}
	}
	full := repeated(t, "D0", 24)
	for _, c := range []struct {
		text string
		sum  int
	}{
		{strings.Repeat("k", 24), 0}, {strings.Repeat("k", 23) + "io", 4}, {strings.Repeat("oi", 24), 96}, {strings.Repeat("o", 24) + strings.Repeat("i", 24), 96},
		{strings.Repeat("k", 23), -1}, {strings.Repeat("k", 25), -1}, {strings.Repeat("k", 23) + "r", -1}, {strings.Repeat("oi", 25), -1}, {strings.Repeat("k", 100000), -1},
	} {
		if sum := impl.EditSum(full, full, c.text); sum != c.sum || impl.EditOk(full, full, c.text) != (c.sum >= 0) {
			t.Errorf("EditSum of 24 tones and %.60q = %d; want %d", c.text, sum, c.sum)
		}
	}
}

// TestP69LongAlignments changes one letter of alignments of long melodies, and draws other ones.
func TestP69LongAlignments(t *testing.T) {
	r := rand.New(rand.NewPCG(69, 2))
	for _, p := range farPairs(t) {
		cost, common := impl.EditCost(p.a, p.b), impl.EditCommon(p.a, p.b)
		for range 5 {
			text := drawnAlignment(r, p.a, p.b)
			sum := impl.EditSum(p.a, p.b, text)
			if sum != sumOfEdits(p.a, p.b, text) || sum < cost || impl.EditSum(p.b, p.a, exchangedText(text)) != sum || strings.Count(text, "k") > common {
				t.Errorf("EditSum(%s, %s, %q) = %d; EditCost is %d", textOf(p.a), textOf(p.b), text, sum, cost)
			}
			i := r.IntN(len(text))
			for _, letter := range strings.Split(strings.ReplaceAll("ikor?", text[i:i+1], ""), "") {
				checkNotAligned(t, p.a, p.b, text[:i]+letter+text[i+1:])
			}
			checkNotAligned(t, p.a, p.b, text[:i]+text[i+1:])
			checkNotAligned(t, p.a, p.b, text[:i+1]+text[i:])
		}
	}
}

func drawnAlignment(r *rand.Rand, a, b []impl.Tone) string {
	text := ""
	for len(a)+len(b) > 0 {
		switch n := r.IntN(4); {
		case len(b) == 0 || n == 0 && len(a) > 0:
			text, a = text+"o", a[1:]
		case len(a) == 0 || n == 1:
			text, b = text+"i", b[1:]
		default:
			text, a, b = text+acrossOf(a[0], b[0]), a[1:], b[1:]
		}
	}
	return text
}

func TestP70EditCommon(t *testing.T) {
	dearer := 0
	for _, p := range allPairs(t) {
		common := impl.EditCommon(p.a, p.b)
		if want := aligned(p.a, p.b).common; common != want {
			t.Errorf("EditCommon(%s, %s) = %d; want %d", textOf(p.a), textOf(p.b), common, want)
		}
		if impl.EditCommon(p.b, p.a) != common || impl.EditCommon(backOf(p.a), backOf(p.b)) != common || impl.EditCommon(p.a, p.a) != len(p.a) {
			t.Errorf("EditCommon(%s, %s) = %d, exchanged %d, and backwards %d", textOf(p.a), textOf(p.b), common, impl.EditCommon(p.b, p.a), impl.EditCommon(backOf(p.a), backOf(p.b)))
		}
		if cost := impl.EditCost(p.a, p.b); common > min(len(p.a), len(p.b)) || cost > 2*(len(p.a)+len(p.b)-2*common) {
			t.Errorf("EditCommon(%s, %s) = %d, and EditCost is %d", textOf(p.a), textOf(p.b), common, cost)
		}
		if text, _ := impl.EditText(p.a, p.b); strings.Count(text, "k") < common {
			dearer++
		}
	}
	if dearer < 50 {
		t.Errorf("just %d alignments of least cost have fewer than the most common tones", dearer)
	}
}

func TestP71ToneInFront(t *testing.T) {
	r := rand.New(rand.NewPCG(71, 3))
	for _, p := range allPairs(t) {
		cost := impl.EditCost(p.a, p.b)
		fronts := append(tonesOf(t, "b1 B1"), drawn(r, allTones(), 1)...)
		fronts = append(fronts, p.a[:min(1, len(p.a))]...)
		fronts = append(fronts, p.b[:min(1, len(p.b))]...)
		for _, x := range fronts {
			a, b := append([]impl.Tone{x}, p.a...), append([]impl.Tone{x}, p.b...)
			if len(a) > 24 {
				checkNoEdits(t, a, p.b)
				continue
			}
			if alone := impl.EditCost(a, p.b); alone < cost-2 || alone > cost+2 || alone != aligned(a, p.b).cost {
				t.Errorf("EditCost(%s, %s) = %d, but without the first tone it is %d", textOf(a), textOf(p.b), alone, cost)
			}
			if len(b) > 24 {
				checkNoEdits(t, a, b)
				continue
			}
			if both := impl.EditCost(a, b); both != cost {
				t.Errorf("EditCost(%s, %s) = %d, but without the first tones it is %d", textOf(a), textOf(b), both, cost)
			}
		}
	}
}

func TestP71ArgumentsStay(t *testing.T) {
	for _, p := range allPairs(t) {
		a, b := spare(p.a), spare(p.b)
		text, _ := impl.EditText(a, b)
		impl.EditCost(a, b)
		impl.EditSum(a, b, text)
		impl.EditCommon(a, b)
		empty := make([]impl.Tone, 30)
		if !slices.Equal(a, p.a) || !slices.Equal(b, p.b) || !slices.Equal(a[len(a):cap(a)][:30], empty) || !slices.Equal(b[len(b):cap(b)][:30], empty) {
			t.Errorf("%s and %s became %v and %v", textOf(p.a), textOf(p.b), a, b)
		}
	}
}
