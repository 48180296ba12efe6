package tests

import (
	"math"
	"math/rand/v2"
	"slices"
	"strings"
	"testing"

	"loop.example/neumes/impl"
)

// outOf are numbers that are negative or greater than most, near and far, some of which 32 bits would bring back.
func outOf(most int) []int {
	return []int{-1, -2, -3, -4, -5, most + 1, most + 2, most + 4, most + 30, 1 << 32, -1 << 32, 1<<32 + 1, math.MaxInt, math.MaxInt - 1, math.MinInt, math.MinInt + 1}
}

// contoursOf are all contours of that many ways.
func contoursOf(ways int) []string {
	list := []string{""}
	for range ways {
		longer := []string{}
		for _, s := range list {
			longer = append(longer, s+"u", s+"d", s+"s")
		}
		list = longer
	}
	return list
}

// contoursUpTo are all contours of at most that many ways.
func contoursUpTo(ways int) []string {
	list := []string{}
	for n := range ways + 1 {
		list = append(list, contoursOf(n)...)
	}
	return list
}

// longContours are contours of 9 to 23 ways, always the same ones: of one way, of two ways in turn, and drawn ones.
func longContours() []string {
	r := rand.New(rand.NewPCG(3, 23))
	list := []string{}
	for n := 9; n <= 23; n++ {
		for _, part := range []string{"u", "d", "s", "ud", "du", "us", "sd", "uds", "uuudd"} {
			list = append(list, strings.Repeat(part, n)[:n])
		}
		for range 20 {
			s := ""
			for range n {
				s += string("uds"[r.IntN(3)])
			}
			list = append(list, s)
		}
	}
	return list
}

// noContours are texts with another byte at each place, and texts of ways that are too long.
func noContours() []string {
	list := []string{" ", "u ", " u", "u d", "U", "D", "S", "é", "u\x00", "ud\n", "punctum", "pes", "group-us", "\xffu", "u\u0301", "ｕ"}
	for b := range 256 {
		other := string([]byte{byte(b)})
		if strings.Contains("uds", other) {
			continue
		}
		list = append(list, other, other+"ud", "u"+other+"d", "ud"+other, strings.Repeat("s", 22)+other)
	}
	full := strings.Repeat("u", 23)
	for i := range full {
		list = append(list, full[:i]+"x"+full[i+1:])
	}
	for _, n := range []int{24, 25, 47, 48, 256, 1000} {
		list = append(list, strings.Repeat("u", n), strings.Repeat("s", n), strings.Repeat("dsu", n)[:n])
	}
	return list
}

// waysBetween is the contour of a list of steps, made without the program's own functions.
func waysBetween(steps []int) string {
	s := ""
	for i := 1; i < len(steps); i++ {
		switch {
		case steps[i-1] < steps[i]:
			s += "u"
		case steps[i-1] > steps[i]:
			s += "d"
		default:
			s += "s"
		}
	}
	return s
}

func stepListOf(m []impl.Tone) []int {
	steps := []int{}
	for _, x := range m {
		steps = append(steps, x.Step)
	}
	return steps
}

func turnOf(s string) string {
	return strings.NewReplacer("u", "d", "d", "u").Replace(s)
}

func backWaysOf(s string) string {
	return turnOf(string(backOf([]byte(s))))
}

// otherNeumes are the names of the neumes that have one of their own.
var otherNeumes = map[string]string{"": "punctum", "u": "pes", "d": "clivis", "ud": "torculus", "du": "porrectus", "uu": "scandicus", "dd": "climacus"}

func neumeOf(contour string) string {
	if name, ok := otherNeumes[contour]; ok {
		return name
	}
	return "group-" + contour
}

// groupsOf reads groups from their Sizes, each with an L behind if it is Liquid.
func groupsOf(text string) []impl.Melisma {
	groups := []impl.Melisma{}
	for _, word := range strings.Fields(text) {
		groups = append(groups, impl.Melisma{Size: int(word[0] - '0'), Liquid: len(word) == 2})
	}
	return groups
}

// sizesOf are all lists of numbers of 1 to 4 whose sum is n.
func sizesOf(n int) [][]int {
	if n == 0 {
		return [][]int{{}}
	}
	list := [][]int{}
	for size := 1; size <= min(4, n); size++ {
		for _, rest := range sizesOf(n - size) {
			list = append(list, append([]int{size}, rest...))
		}
	}
	return list
}

// allGroups are all groups of a melody of n tones, Liquid or not.
func allGroups(n int) [][]impl.Melisma {
	list := [][]impl.Melisma{}
	for _, sizes := range sizesOf(n) {
		for bits := range 1 << len(sizes) {
			groups := []impl.Melisma{}
			for i, size := range sizes {
				groups = append(groups, impl.Melisma{Size: size, Liquid: bits>>i&1 == 1})
			}
			list = append(list, groups)
		}
	}
	return list
}

func drawnGroups(r *rand.Rand, n int) []impl.Melisma {
	groups := []impl.Melisma{}
	for n > 0 {
		size := 1 + r.IntN(min(4, n))
		groups = append(groups, impl.Melisma{Size: size, Liquid: r.IntN(2) == 0})
		n -= size
	}
	return groups
}

// grouped is a melody with groups of it.
type grouped struct {
	m      []impl.Tone
	groups []impl.Melisma
}

// someGrouped are melodies of up to 5 tones with all their groups, and longer ones with drawn groups, always the same ones.
func someGrouped(t *testing.T) []grouped {
	list := []grouped{}
	for _, text := range []string{"", "D0", "b1", "D0 F0", "F0 D0", "D0 D0", "b1 B1", "D0 F0 E0", "D0 E0 E0", "F2 G0 F2", "D0 F0 E0 E0", "G0 A0 B0 C0", "b1 B1 A1 C1", "D0 F0 E0 E0 C0", "C1 B1 b1 A1 D0"} {
		m := tonesOf(t, text)
		for _, groups := range allGroups(len(m)) {
			list = append(list, grouped{m, groups})
		}
	}
	r := rand.New(rand.NewPCG(3, 4))
	for _, m := range longMelodies() {
		list = append(list, grouped{m, drawnGroups(r, len(m))})
	}
	for n := 6; n <= 24; n++ {
		m := drawn(r, allTones(), n)
		ones, fours := slices.Repeat([]impl.Melisma{{Size: 1, Liquid: true}}, n), slices.Repeat([]impl.Melisma{{Size: 4}}, n/4)
		list = append(list, grouped{m, ones}, grouped{m[:n/4*4], fours})
	}
	return list
}

// badGroups are lists that are no groups of a melody of n tones.
func badGroups(n int) [][]impl.Melisma {
	list := [][]impl.Melisma{}
	good := slices.Repeat([]impl.Melisma{{Size: 1}}, n)
	for _, size := range []int{0, -1, -2, -4, 5, 6, 8, 256, math.MinInt, math.MaxInt, 1 << 32, 1<<32 + 1, -1 << 32} {
		for i := range good {
			bad := slices.Clone(good)
			bad[i].Size = size
			list = append(list, bad, append(bad[:i:i], bad[i+1:]...))
		}
		for i := range n + 1 {
			list = append(list, slices.Insert(slices.Clone(good), i, impl.Melisma{Size: size, Liquid: i%2 == 0}))
		}
		rest := n - size // wraps around, and so does the sum
		list = append(list, []impl.Melisma{{Size: size}, {Size: rest}}, []impl.Melisma{{Size: rest}, {Size: size}}, []impl.Melisma{{Size: size}})
	}
	for extra := 1; extra <= 4; extra++ {
		list = append(list, append(slices.Clone(good), impl.Melisma{Size: extra}), append([]impl.Melisma{{Size: extra}}, good...))
	}
	if n > 0 {
		list = append(list, nil, good[1:], good[:n-1])
	}
	if n > 4 {
		list = append(list, []impl.Melisma{{Size: n}}, []impl.Melisma{{Size: 5}, {Size: n - 5}})
	}
	wrapped := []impl.Melisma{{Size: math.MaxInt}, {Size: math.MaxInt}, {Size: 2}}
	halves := []impl.Melisma{{Size: math.MinInt}, {Size: math.MinInt}}
	long := slices.Repeat([]impl.Melisma{{Size: 1}}, 1000)
	return append(list, append(wrapped, good...), append(halves, good...), append(slices.Clone(good), halves...), long, slices.Repeat([]impl.Melisma{{}}, 1000))
}
