package tests

import (
	"math"
	"slices"
	"strings"
	"testing"

	"loop.example/neumes/impl"
)

func TestContourValid(t *testing.T) {
	for _, s := range append(contoursUpTo(8), longContours()...) {
		if !impl.ContourValid(s) {
			t.Errorf("ContourValid(%q) does not hold", s)
		}
	}
	for _, s := range noContours() {
		if impl.ContourValid(s) {
			t.Errorf("ContourValid(%q) holds", s)
		}
	}
	full := strings.Repeat("s", 23)
	if !impl.ContourValid("") || !impl.ContourValid(full) || impl.ContourValid(full+"s") {
		t.Errorf("ContourValid does not hold for no ways or MelodyMax - 1 ways, or holds for one more")
	}
}

func TestP25ContourOf(t *testing.T) {
	for _, m := range someMelodies() {
		s := impl.ContourOf(m)
		if s != waysBetween(stepListOf(m)) || len(s) != max(0, len(m)-1) {
			t.Errorf("ContourOf(%s) = %q", textOf(m), s)
		}
		back, _ := impl.MelodyBack(m)
		if x, ok := impl.ContourBack(s); !ok || x != impl.ContourOf(back) {
			t.Errorf("ContourOf(%s) = %q, ContourBack of it is %q, %v", textOf(m), s, x, ok)
		}
		for _, k := range []int{-14, -7, 0, 7, 14} {
			if moved, ok := impl.MelodyMove(m, k); ok && impl.ContourOf(moved) != s {
				t.Errorf("ContourOf(%s) = %q, by %d steps it is another one", textOf(m), s, k)
			}
		}
	}
}

func TestP25ContourOfEdges(t *testing.T) {
	for _, c := range []struct{ m, want string }{
		{"", ""}, {"D0", ""}, {"b1", ""}, {"D0 D0", "s"}, {"D0 D1", "u"}, {"D1 D0", "d"}, {"G0 F2", "u"}, {"F2 G0", "d"},
		{"b1 B1", "s"}, {"B1 b1", "s"}, {"b1 b1 B1 B1", "sss"}, {"A1 b1 B1 C1", "usu"}, {"C1 B1 b1 A1", "dsd"}, {"b0 B1", "u"},
		{"D0 F0 E0 E0", "uds"}, {"D0 F0 G1 A1 b1 A1", "uuuud"}, {"E0 F0 E0 D0 D0", "udds"}, {"B0 b0 b1", "su"},
	} {
		if s := impl.ContourOf(tonesOf(t, c.m)); s != c.want {
			t.Errorf("ContourOf(%s) = %q; want %q", c.m, s, c.want)
		}
	}
	if s := impl.ContourOf(repeated(t, "D0 E0", 12)); s != strings.Repeat("ud", 12)[:23] {
		t.Errorf("ContourOf of MelodyMax tones is %q", s)
	}
	if s := impl.ContourOf(nil); s != "" {
		t.Errorf("ContourOf of no tones is %q", s)
	}
}

func TestP25ContourOfNoMelody(t *testing.T) {
	for _, m := range noMelodies(t) {
		if s := impl.ContourOf(m); s != "" {
			t.Errorf("ContourOf(%v) = %q", m, s)
		}
	}
}

func TestP26ContourTurnAndBack(t *testing.T) {
	for _, s := range append(contoursUpTo(6), longContours()...) {
		turned, ok := impl.ContourTurn(s)
		if !ok || turned != turnOf(s) {
			t.Errorf("ContourTurn(%q) = %q, %v", s, turned, ok)
		}
		if again, ok := impl.ContourTurn(turned); !ok || again != s {
			t.Errorf("ContourTurn twice of %q = %q, %v", s, again, ok)
		}
		back, ok := impl.ContourBack(s)
		if !ok || back != backWaysOf(s) {
			t.Errorf("ContourBack(%q) = %q, %v", s, back, ok)
		}
		backTurned, _ := impl.ContourTurn(back)
		if turnedBack, ok := impl.ContourBack(turned); !ok || turnedBack != backTurned {
			t.Errorf("of %q, ContourBack of ContourTurn = %q, %v; the other way round it is %q", s, turnedBack, ok, backTurned)
		}
	}
}

func TestP26ContourTurnAndBackEdges(t *testing.T) {
	for _, c := range []struct{ s, turned, back string }{
		{"", "", ""}, {"u", "d", "d"}, {"d", "u", "u"}, {"s", "s", "s"}, {"ud", "du", "ud"}, {"us", "ds", "sd"}, {"su", "sd", "ds"},
		{"usdd", "dsuu", "uusd"}, {"sss", "sss", "sss"}, {"uus", "dds", "sdd"}, {"sud", "sdu", "uds"},
		{strings.Repeat("u", 22) + "s", strings.Repeat("d", 22) + "s", "s" + strings.Repeat("d", 22)},
	} {
		turned, okTurned := impl.ContourTurn(c.s)
		back, okBack := impl.ContourBack(c.s)
		if !okTurned || !okBack || turned != c.turned || back != c.back {
			t.Errorf("ContourTurn(%q) = %q, %v; ContourBack is %q, %v", c.s, turned, okTurned, back, okBack)
		}
	}
}

func TestP26NoContour(t *testing.T) {
	for _, s := range noContours() {
		turned, okTurned := impl.ContourTurn(s)
		back, okBack := impl.ContourBack(s)
		if okTurned || okBack || turned != "" || back != "" {
			t.Errorf("ContourTurn(%q) = %q, %v; ContourBack is %q, %v", s, turned, okTurned, back, okBack)
		}
	}
}

func TestP26AsManyListsTurned(t *testing.T) {
	for _, s := range contoursUpTo(8) {
		turned, _ := impl.ContourTurn(s)
		for _, most := range []int{0, 1, 2, 5, 9, 20} {
			if n, many := impl.ContourMany(s, most), impl.ContourMany(turned, most); n < 0 || n != many {
				t.Errorf("ContourMany(%q, %d) = %d; turned it is %d", s, most, n, many)
			}
		}
	}
}

// listsOf are all lists of n steps in the range 0 to most.
func listsOf(n, most int) [][]int {
	list := [][]int{{}}
	for range n {
		longer := [][]int{}
		for _, steps := range list {
			for step := range most + 1 {
				longer = append(longer, append(slices.Clone(steps), step))
			}
		}
		list = longer
	}
	return list
}

func TestP27ContourManyOfAllLists(t *testing.T) {
	for _, c := range []struct{ tones, most int }{{1, 20}, {2, 0}, {2, 1}, {2, 20}, {3, 0}, {3, 1}, {3, 2}, {3, 20}, {4, 3}, {4, 6}, {5, 4}, {6, 3}, {7, 2}, {9, 1}, {9, 2}} {
		many := map[string]int{}
		for _, steps := range listsOf(c.tones, c.most) {
			many[waysBetween(steps)]++
		}
		for _, s := range contoursOf(c.tones - 1) {
			if n := impl.ContourMany(s, c.most); n != many[s] {
				t.Errorf("ContourMany(%q, %d) = %d; want %d", s, c.most, n, many[s])
			}
		}
	}
}

func TestP27ContourManyOfOneWayMore(t *testing.T) {
	for _, s := range contoursUpTo(7) {
		less := 0
		for most := range 21 {
			n := impl.ContourMany(s, most)
			if sum := impl.ContourMany(s+"u", most) + impl.ContourMany(s+"d", most) + impl.ContourMany(s+"s", most); sum != n*(most+1) {
				t.Errorf("ContourMany(%q, %d) = %d; with one way behind it is %d together", s, most, n, sum)
			}
			if back := impl.ContourMany(backWaysOf(s), most); back != n {
				t.Errorf("ContourMany(%q, %d) = %d; backwards it is %d", s, most, n, back)
			}
			if n < less {
				t.Errorf("ContourMany(%q, %d) = %d; with fewer steps it is %d", s, most, n, less)
			}
			less = n
		}
	}
}

func TestP27ContourManyEdges(t *testing.T) {
	for _, c := range []struct {
		s    string
		most int
		want int
	}{
		{"", 0, 1}, {"", 1, 2}, {"", 20, 21}, {"s", 0, 1}, {"u", 0, 0}, {"d", 0, 0}, {"s", 20, 21}, {"u", 20, 210}, {"d", 20, 210}, {"ud", 2, 5},
		{"ssssssss", 0, 1}, {"ssssssss", 20, 21}, {"uuuuuuuu", 7, 0}, {"uuuuuuuu", 8, 1}, {"uuuuuuuu", 9, 10}, {"uuuuuuuu", 20, 293930},
		{"dddddddd", 20, 293930}, {"uuuussss", 20, 20349}, {"usdd", 20, 20615}, {"uuuuuuud", 8, 71}, {"sussssss", 1, 1}, {"udududud", 1, 1}, {"udududud", 0, 0},
		{"sssssssss", 0, -1}, {"sssssssss", 20, -1}, {"uuuuuuuuu", 20, -1}, {"ududududu", 20, -1}, {strings.Repeat("s", 23), 20, -1}, {strings.Repeat("s", 24), 20, -1},
		{"u", 21, -1}, {"", 21, -1}, {"", -1, -1}, {"u", -1, -1}, {"ud", -2, -1}, {"", math.MaxInt, -1}, {"s", math.MinInt, -1}, {"u", 1 << 32, -1},
	} {
		if n := impl.ContourMany(c.s, c.most); n != c.want {
			t.Errorf("ContourMany(%q, %d) = %d; want %d", c.s, c.most, n, c.want)
		}
	}
}

func TestP27ContourManyInvalid(t *testing.T) {
	for _, s := range noContours() {
		for _, most := range []int{-1, 0, 2, 20, 21} {
			if n := impl.ContourMany(s, most); n != -1 {
				t.Errorf("ContourMany(%q, %d) = %d", s, most, n)
			}
		}
	}
	for _, s := range longContours() {
		if n := impl.ContourMany(s, 20); n != -1 {
			t.Errorf("ContourMany(%q, 20) = %d", s, n)
		}
	}
	for _, s := range contoursUpTo(4) {
		for _, most := range outOf(20) {
			if n := impl.ContourMany(s, most); n != -1 {
				t.Errorf("ContourMany(%q, %d) = %d", s, most, n)
			}
		}
	}
}

// leastOf raises steps that are too low until the steps have the contour.
func leastOf(s string) []int {
	steps := make([]int, len(s)+1)
	for again := true; again; {
		again = false
		for i := range len(s) {
			for _, c := range []struct {
				way         byte
				low, higher int
				by          int
			}{{'u', i, i + 1, 1}, {'d', i + 1, i, 1}, {'s', i, i + 1, 0}, {'s', i + 1, i, 0}} {
				if c.way == s[i] && steps[c.higher] < steps[c.low]+c.by {
					steps[c.higher] = steps[c.low] + c.by
					again = true
				}
			}
		}
	}
	return steps
}

func TestP28ContourLeast(t *testing.T) {
	for _, s := range append(contoursUpTo(8), longContours()...) {
		steps, ok := impl.ContourLeast(s)
		if !ok || !slices.Equal(steps, leastOf(s)) {
			t.Errorf("ContourLeast(%q) = %v, %v; want %v", s, steps, ok, leastOf(s))
			continue
		}
		if waysBetween(steps) != s || slices.Min(steps) != 0 {
			t.Errorf("ContourLeast(%q) = %v has another contour, or no 0", s, steps)
		}
		for most := range 21 {
			if many := impl.ContourMany(s, most); len(s) <= 8 && many > 0 != (most >= slices.Max(steps)) {
				t.Errorf("ContourLeast(%q) = %v, ContourMany up to %d is %d", s, steps, most, many)
			}
		}
	}
}

func TestP28ContourLeastEdges(t *testing.T) {
	for _, c := range []struct {
		s    string
		want []int
	}{
		{"", []int{0}}, {"s", []int{0, 0}}, {"u", []int{0, 1}}, {"d", []int{1, 0}}, {"usdd", []int{0, 2, 2, 1, 0}}, {"sss", []int{0, 0, 0, 0}},
		{"us", []int{0, 1, 1}}, {"su", []int{0, 0, 1}}, {"sd", []int{1, 1, 0}}, {"ds", []int{1, 0, 0}}, {"usu", []int{0, 1, 1, 2}}, {"dsd", []int{2, 1, 1, 0}},
		{"uusd", []int{0, 1, 2, 2, 0}}, {"dsu", []int{1, 0, 0, 1}}, {"usddd", []int{0, 3, 3, 2, 1, 0}}, {"uddud", []int{0, 2, 1, 0, 1, 0}}, {"sudds", []int{0, 0, 2, 1, 0, 0}},
	} {
		if steps, ok := impl.ContourLeast(c.s); !ok || !slices.Equal(steps, c.want) {
			t.Errorf("ContourLeast(%q) = %v, %v; want %v", c.s, steps, ok, c.want)
		}
	}
	up, ok := impl.ContourLeast(strings.Repeat("u", 23))
	if !ok || len(up) != 24 || up[0] != 0 || up[20] != 20 || up[21] != 21 || up[23] != 23 {
		t.Errorf("ContourLeast of 23 ways up = %v, %v", up, ok)
	}
	down, ok := impl.ContourLeast(strings.Repeat("d", 23))
	if !ok || !slices.Equal(down, backOf(up)) {
		t.Errorf("ContourLeast of 23 ways down = %v, %v", down, ok)
	}
}

func TestP28ContourLeastOfNoContour(t *testing.T) {
	for _, s := range noContours() {
		if steps, ok := impl.ContourLeast(s); ok || len(steps) != 0 {
			t.Errorf("ContourLeast(%q) = %v, %v", s, steps, ok)
		}
	}
}

func TestP28ContourLeastIsNewMemory(t *testing.T) {
	a, _ := impl.ContourLeast("usdd")
	b, _ := impl.ContourLeast("usdd")
	checkApart(t, "ContourLeast", a, b, -9)
}

func TestP29OneStepLower(t *testing.T) {
	for _, s := range append(contoursUpTo(6), longContours()...) {
		steps, _ := impl.ContourLeast(s)
		for i := range steps {
			lower := slices.Clone(steps)
			lower[i]--
			if steps[i] > 0 && waysBetween(lower) == s {
				t.Errorf("ContourLeast(%q) = %v, with %v it is the same contour", s, steps, lower)
			}
		}
	}
}

// TestP29LeastOfAllLists: no list with the contour has a lesser step anywhere.
func TestP29LeastOfAllLists(t *testing.T) {
	for n := 1; n <= 6; n++ {
		for _, list := range listsOf(n, 4) {
			s := waysBetween(list)
			steps, ok := impl.ContourLeast(s)
			for i := range list {
				if !ok || i >= len(steps) || steps[i] > list[i] {
					t.Errorf("ContourLeast(%q) = %v, %v; %v is lower", s, steps, ok, list)
				}
			}
		}
	}
}
