package tests

import (
	"math/rand/v2"
	"slices"
	"strings"
	"testing"

	"loop.example/neumes/impl"
)

// shortVerses are all verses of at most that many syllables.
func shortVerses(most int) []string {
	list := []string{}
	for n := 2; n <= most; n++ {
		for bits := range 1 << n {
			syllables := ""
			for i := range n {
				syllables += string("x/"[bits>>i&1])
			}
			for bar := 1; bar < n; bar++ {
				list = append(list, syllables[:bar]+"|"+syllables[bar:])
			}
		}
	}
	return list
}

// longVerses are verses of 9 to 20 syllables with the bar at each place, always the same ones: without accents, with nothing else, with accents in one half alone, and drawn ones.
func longVerses() []string {
	r := rand.New(rand.NewPCG(4, 20))
	list := []string{}
	for n := 9; n <= 20; n++ {
		for first := 1; first < n; first++ {
			second := n - first
			list = append(list,
				strings.Repeat("x", first)+"|"+strings.Repeat("x", second), strings.Repeat("/", first)+"|"+strings.Repeat("/", second),
				drawnHalf(r, first)+"|"+strings.Repeat("x", second), strings.Repeat("x", first)+"|"+drawnHalf(r, second),
				drawnHalf(r, first)+"|"+drawnHalf(r, second))
		}
	}
	return list
}

// drawnHalf has few accents or many ones.
func drawnHalf(r *rand.Rand, n int) string {
	weak := 1 + r.IntN(5)
	half := ""
	for range n {
		if r.IntN(weak+1) == 0 {
			half += "/"
		} else {
			half += "x"
		}
	}
	return half
}

func someVerses() []string {
	return append(shortVerses(8), longVerses()...)
}

// noVerses are texts with other bytes, with no bar or too many, with an empty half, and with too many syllables.
func noVerses() []string {
	list := []string{"", "|", "||", "|||", "x", "/", "x/x", "x|", "/|", "|x", "|/", "x||x", "|x|x", "x|x|", "x|x|x", "x|/|x", "|xx/", "xx/|", "x |x", "x| x", "x/\\|x", "X|x", "x|X", "x¦x", "é|x", "x\u0338|x", "х|x", "x|x\x00", "\xff|x", "x|/\n", "/|/ ", "punctum", "D0 F0"}
	base := "x/|/x"
	for b := range 256 {
		other := string([]byte{byte(b)})
		if other == "x" || other == "/" {
			continue
		}
		for i := range base {
			list = append(list, base[:i]+other+base[i:])
			if base[:i]+other != "x/|" {
				list = append(list, base[:i]+other+base[i+1:])
			}
		}
		list = append(list, base+other)
	}
	full := strings.Repeat("x", 9) + "|" + strings.Repeat("/", 11)
	for i := range full {
		list = append(list, full[:i]+"y"+full[i+1:], full[:i]+"|"+full[i:])
	}
	list = append(list, strings.Replace(full, "|", "x", 1), strings.Replace(full, "|", "", 1), "|"+strings.Repeat("x", 20), strings.Repeat("/", 20)+"|")
	return append(list, tooLongVerses()...)
}

// tooLongVerses have more than 20 syllables, some of them so many that 8 or 16 bits would bring the number back.
func tooLongVerses() []string {
	list := []string{}
	for _, n := range []int{21, 22, 40, 41} {
		for first := 1; first < n; first++ {
			list = append(list, strings.Repeat("x", first)+"|"+strings.Repeat("x", n-first), strings.Repeat("/", first)+"|"+strings.Repeat("/", n-first))
		}
	}
	for _, n := range []int{255, 256, 257, 1000, 65535, 65536} {
		many := strings.Repeat("/", n)
		list = append(list, many+"|x", "x|"+many, many+"|"+many)
	}
	return list
}

// halvesOf are both halves of a verse, made without the program's own functions.
func halvesOf(s string) (string, string) {
	bar := strings.IndexByte(s, '|')
	return s[:bar], s[bar+1:]
}

// fewVerses have halves of each number of syllables that a psalm tone just fits or not, always the same ones, and there are some of 20 syllables.
func fewVerses() []string {
	r := rand.New(rand.NewPCG(4, 7))
	list := []string{}
	for first := 1; first <= 9; first++ {
		for second := 1; second <= 6; second++ {
			list = append(list, drawnHalf(r, first)+"|"+drawnHalf(r, second), strings.Repeat("/", first)+"|"+strings.Repeat("/", second))
		}
	}
	for _, first := range []int{1, 4, 7, 10, 16, 19} {
		list = append(list, drawnHalf(r, first)+"|"+drawnHalf(r, 20-first), strings.Repeat("x", first)+"|"+strings.Repeat("/", 20-first))
	}
	return list
}

// psalmOf reads a psalm tone from the texts of its parts, with colons between.
func psalmOf(t *testing.T, text string) impl.Psalm {
	t.Helper()
	parts := strings.Split(text, ":")
	return impl.Psalm{Start: tonesOf(t, parts[0]), Tenor: toneOf(t, strings.TrimSpace(parts[1])), Middle: tonesOf(t, parts[2]), End: tonesOf(t, parts[3])}
}

// somePsalms are psalm tones with parts of all sizes, always the same ones: of any tones, of tones near one another, and of B's.
func somePsalms() []impl.Psalm {
	r := rand.New(rand.NewPCG(4, 47))
	near := slices.DeleteFunc(allTones(), func(x impl.Tone) bool { return x.Step < 6 || x.Step > 11 })
	list := []impl.Psalm{}
	for _, from := range [][]impl.Tone{allTones(), near, bTones()} {
		for start := range 4 {
			for middle := 1; middle <= 4; middle++ {
				for end := 1; end <= 4; end++ {
					list = append(list, impl.Psalm{Start: drawn(r, from, start), Tenor: drawn(r, from, 1)[0], Middle: drawn(r, from, middle), End: drawn(r, from, end)})
				}
			}
		}
	}
	return list
}

// badPsalms have an invalid tone at each place of each part, or parts of other sizes.
func badPsalms(t *testing.T) []impl.Psalm {
	good := psalmOf(t, "F0 G1 A1:A1:C1 b1 A1 G1:A1 G1 F0 E0")
	list := []impl.Psalm{{}}
	for _, bad := range badTones() {
		p := good
		p.Tenor = bad
		list = append(list, p)
		for i := range good.Start {
			p := good
			p.Start = replaced(good.Start, i, bad)
			list = append(list, p)
		}
		for i := range good.Middle {
			p, q := good, good
			p.Middle, q.End = replaced(good.Middle, i, bad), replaced(good.End, i, bad)
			list = append(list, p, q)
		}
	}
	for _, n := range []int{0, 4, 5, 6, 8, 24, 25, 256, 1000} {
		p, q, o := good, good, good
		p.Start, q.Middle, o.End = repeated(t, "G1", n), repeated(t, "G1", n), repeated(t, "G1", n)
		if n > 3 {
			list = append(list, p)
		}
		if n != 4 {
			list = append(list, q, o)
		}
	}
	return list
}

// replaced is a copy of a list with another value at one place.
func replaced[T any](list []T, i int, other T) []T {
	copied := slices.Clone(list)
	copied[i] = other
	return copied
}

func textOfPsalm(p impl.Psalm) string {
	return textOf(p.Start) + ":" + textOf([]impl.Tone{p.Tenor}) + ":" + textOf(p.Middle) + ":" + textOf(p.End)
}

func samePsalm(p, q impl.Psalm) bool {
	return slices.Equal(p.Start, q.Start) && p.Tenor == q.Tenor && slices.Equal(p.Middle, q.Middle) && slices.Equal(p.End, q.End)
}

// fitsOf, sungOf and chantedAccentsOf tell what PsalmFits, PsalmSing and PsalmAccents return for valid arguments, made without the program's own functions.
func fitsOf(p impl.Psalm, s string) bool {
	first, second := halvesOf(s)
	return len(first) >= len(p.Start)+len(p.Middle) && len(second) >= len(p.End)
}

func sungOf(p impl.Psalm, s string) []impl.Tone {
	first, second := halvesOf(s)
	tenor := []impl.Tone{p.Tenor}
	return slices.Concat(p.Start, slices.Repeat(tenor, len(first)-len(p.Start)-len(p.Middle)), p.Middle, slices.Repeat(tenor, len(second)-len(p.End)), p.End)
}

func chantedAccentsOf(p impl.Psalm, s string) int {
	first, second := halvesOf(s)
	return strings.Count(first[len(first)-len(p.Middle):], "/") + strings.Count(second[len(second)-len(p.End):], "/")
}
