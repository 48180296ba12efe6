package tests

import (
	"math/rand/v2"
	"slices"
	"strings"
	"testing"

	"loop.example/neumes/impl"
)

// alignmentsOf and the others tell what the functions of edits return, made without the program's own functions.
func alignmentsOf(a, b []impl.Tone) []string {
	if len(a)+len(b) == 0 {
		return []string{""}
	}
	list := []string{}
	add := func(letter string, rest []string) {
		for _, s := range rest {
			list = append(list, letter+s)
		}
	}
	if len(b) > 0 {
		add("i", alignmentsOf(a, b[1:]))
	}
	if len(a) > 0 {
		add("o", alignmentsOf(a[1:], b))
	}
	if len(a) > 0 && len(b) > 0 {
		add(acrossOf(a[0], b[0]), alignmentsOf(a[1:], b[1:]))
	}
	slices.Sort(list)
	return list
}

// acrossOf is the letter of an edit that goes through a tone of both melodies.
func acrossOf(x, y impl.Tone) string {
	if x == y {
		return "k"
	}
	return "r"
}

func acrossCost(x, y impl.Tone) int {
	switch {
	case x == y:
		return 0
	case x.Step == y.Step:
		return 1
	}
	return 3
}

// sumOfEdits is for alignments only.
func sumOfEdits(a, b []impl.Tone, text string) int {
	sum, i, k := 0, 0, 0
	for _, letter := range text {
		switch letter {
		case 'o':
			sum, i = sum+2, i+1
		case 'i':
			sum, k = sum+2, k+1
		default:
			sum, i, k = sum+acrossCost(a[i], b[k]), i+1, k+1
		}
	}
	return sum
}

// alignedOf tells of two melodies what the functions return.
type alignedOf struct {
	cost   int
	text   string
	common int
}

// aligned goes from the beginning on, and keeps for each number of tones of both the text itself.
func aligned(a, b []impl.Tone) alignedOf {
	rows := [25][25]alignedOf{}
	for i := range len(a) + 1 {
		for k := range len(b) + 1 {
			if i+k == 0 {
				continue
			}
			ways := []alignedOf{}
			if i > 0 {
				up := rows[i-1][k]
				ways = append(ways, alignedOf{up.cost + 2, up.text + "o", up.common})
			}
			if k > 0 {
				left := rows[i][k-1]
				ways = append(ways, alignedOf{left.cost + 2, left.text + "i", left.common})
			}
			if i > 0 && k > 0 {
				x, y, both := a[i-1], b[k-1], rows[i-1][k-1]
				ways = append(ways, alignedOf{both.cost + acrossCost(x, y), both.text + acrossOf(x, y), both.common + strings.Count(acrossOf(x, y), "k")})
			}
			rows[i][k] = bestAligned(ways)
		}
	}
	return rows[len(a)][len(b)]
}

// bestAligned takes the cost and the text from one way and the common tones from any other one.
func bestAligned(ways []alignedOf) alignedOf {
	best := ways[0]
	for _, w := range ways[1:] {
		if w.cost < best.cost || w.cost == best.cost && w.text < best.text {
			best.cost, best.text = w.cost, w.text
		}
		best.common = max(best.common, w.common)
	}
	return best
}

// exchangedText has i and o exchanged.
func exchangedText(text string) string {
	return strings.NewReplacer("i", "o", "o", "i").Replace(text)
}

func melodiesUpTo(from []impl.Tone, most int) [][]impl.Tone {
	list := [][]impl.Tone{{}}
	last := list
	for range most {
		longer := [][]impl.Tone{}
		for _, m := range last {
			for _, x := range from {
				longer = append(longer, append(slices.Clone(m), x))
			}
		}
		list = append(list, longer...)
		last = longer
	}
	return list
}

type melodyPair struct{ a, b []impl.Tone }

// nearPairs are all pairs of melodies of at most 3 tones, of a B, the Soft one of its step, and another one, and some drawn ones of at most 6.
func nearPairs(t *testing.T) []melodyPair {
	t.Helper()
	list := []melodyPair{}
	few := melodiesUpTo(tonesOf(t, "A1 b1 B1"), 3)
	for _, a := range few {
		for _, b := range few {
			list = append(list, melodyPair{a, b})
		}
	}
	r := rand.New(rand.NewPCG(7, 67))
	for _, texts := range editTones {
		from := tonesOf(t, texts)
		for range 60 {
			list = append(list, melodyPair{drawn(r, from, r.IntN(7)), drawn(r, from, r.IntN(7))})
		}
	}
	return list
}

// editTones are the tones of which melodies are drawn that become others.
var editTones = []string{"D0", "b1 B1", "b1 B1 A1", "b0 B0 b1 B1 b2 B2", "D0 E0", "D0 E0 F0 G1", toneTexts}

// farPairs are pairs of melodies of up to MelodyMax tones: drawn ones, and ones that became others by drawn edits.
func farPairs(t *testing.T) []melodyPair {
	t.Helper()
	r := rand.New(rand.NewPCG(7, 71))
	list := []melodyPair{}
	for _, texts := range editTones {
		from := tonesOf(t, texts)
		for _, n := range []int{7, 10, 16, 23, 24} {
			for _, k := range []int{0, 1, 2, 8, 15, 23, 24} {
				list = append(list, melodyPair{drawn(r, from, n), drawn(r, from, k)})
			}
			for range 8 {
				a := drawn(r, from, n)
				list = append(list, melodyPair{a, edited(r, from, a)})
			}
		}
	}
	return list
}

// edited leaves some tones out, replaces some and puts some in.
func edited(r *rand.Rand, from, m []impl.Tone) []impl.Tone {
	m = slices.Clone(m)
	for range 1 + r.IntN(6) {
		i := r.IntN(len(m))
		switch r.IntN(3) {
		case 0:
			if len(m) > 1 {
				m = slices.Delete(m, i, i+1)
			}
		case 1:
			m[i] = from[r.IntN(len(from))]
		default:
			if len(m) < 24 {
				m = slices.Insert(m, i, from[r.IntN(len(from))])
			}
		}
	}
	return m
}

func allPairs(t *testing.T) []melodyPair {
	t.Helper()
	return append(nearPairs(t), farPairs(t)...)
}

// checkNoEdits is for two lists of which one is no melody.
func checkNoEdits(t *testing.T, a, b []impl.Tone) {
	t.Helper()
	if cost, common := impl.EditCost(a, b), impl.EditCommon(a, b); cost != -1 || common != -1 {
		t.Errorf("EditCost(%v, %v) = %d, and EditCommon is %d", a, b, cost, common)
	}
	if text, ok := impl.EditText(a, b); ok || text != "" {
		t.Errorf("EditText(%v, %v) = %q, %v", a, b, text, ok)
	}
	across := strings.Repeat("r", min(len(a), len(b)))
	out, in := strings.Repeat("o", len(a)-len(across)), strings.Repeat("i", len(b)-len(across))
	for _, text := range []string{"", "k", across + out + in, strings.Repeat("k", len(across)) + out + in, strings.Repeat("o", len(a)) + strings.Repeat("i", len(b))} {
		checkNotAligned(t, a, b, text)
	}
}

func checkNotAligned(t *testing.T, a, b []impl.Tone, text string) {
	t.Helper()
	if sum := impl.EditSum(a, b, text); sum != -1 || impl.EditOk(a, b, text) {
		t.Errorf("EditSum(%v, %v, %q) = %d, and EditOk is %v", a, b, text, sum, impl.EditOk(a, b, text))
	}
}
