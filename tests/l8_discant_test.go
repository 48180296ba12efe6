package tests

import (
	"slices"
	"strings"
	"testing"

	"loop.example/neumes/impl"
)

func TestP87DiscantConcords(t *testing.T) {
	several := 0
	for _, p := range somePairs(t) {
		concords := impl.DiscantConcords(p.a, p.b)
		if !slices.Equal(concords, concordsOf(p.a, p.b)) || !slices.Equal(impl.DiscantConcords(p.b, p.a), concords) {
			t.Errorf("DiscantConcords(%v, %v) = %v, and exchanged %v; want %v", p.a, p.b, concords, impl.DiscantConcords(p.b, p.a), concordsOf(p.a, p.b))
		}
		for _, beat := range concords {
			x, _ := impl.PartAt(p.a, beat)
			y, ok := impl.PartAt(p.b, beat)
			if !ok || beat%3 != 0 || !strings.HasSuffix(impl.ToneInterval(x, y), "p") {
				t.Errorf("DiscantConcords(%v, %v) = %v, but the beat %d has %v and %v", p.a, p.b, concords, beat, x, y)
			}
		}
		if len(concords) > 1 {
			several++
		}
		if all := impl.DiscantConcords(p.a, p.a); len(all) != (impl.PartBeats(p.a)+2)/3 {
			t.Errorf("DiscantConcords(%v) of a part and itself = %v", p.a, all)
		}
	}
	if several < 1000 {
		t.Errorf("just %d pairs have several concords", several)
	}
}

// TestP87AllTones checks each two tones, on one beat.
func TestP87AllTones(t *testing.T) {
	many := 0
	for _, x := range allTones() {
		for _, y := range allTones() {
			a, b := []impl.Voice{{Tone: x, Beats: 1}}, []impl.Voice{{Tone: y, Beats: 1}}
			want := concordOf(x, y)
			concords := impl.DiscantConcords(a, b)
			if slices.Equal(concords, []int{0}) != want || len(concords) > 1 || impl.DiscantOk(a, b) != want {
				t.Errorf("DiscantConcords of %v and %v = %v, and DiscantOk is %v; want %v", x, y, concords, impl.DiscantOk(a, b), want)
			}
			if want {
				many++
			}
		}
	}
	if many < 100 || many > 24*24/2 {
		t.Errorf("%d of all pairs of tones are concords", many)
	}
}

func TestP87DiscantConcordsEdges(t *testing.T) {
	for _, c := range []struct{ a, b, want string }{
		{"", "", ""}, {"D0.1", "D0.1", "0"},
		// A unison, a fourth, a fifth, octaves, and these and other intervals above an octave.
		{"D0.1", "G1.1", "0"}, {"D0.1", "A1.1", "0"}, {"D0.1", "D1.1", "0"}, {"D0.1", "D2.1", "0"}, {"D0.1", "G2.1", "0"}, {"D0.1", "A2.1", "0"}, {"G0.1", "C2.1", "0"}, {"G0.1", "D2.1", "0"}, {"D0.1", "F0.1", ""}, {"D0.1", "E1.1", ""}, {"D0.1", "B1.1", ""}, {"D0.1", "b1.1", ""},
		// Steps between of 0, 3 and 4 whose interval is not pure.
		{"B1.1", "b1.1", ""}, {"B0.1", "b1.1", ""}, {"b0.1", "B1.1", ""}, {"b0.1", "B2.1", ""}, {"F0.1", "B1.1", ""}, {"F0.1", "b1.1", "0"}, {"B0.1", "F0.1", ""}, {"b0.1", "F0.1", "0"}, {"E0.1", "b1.1", ""}, {"E0.1", "B1.1", "0"}, {"F0.1", "B2.1", ""}, {"F0.1", "b2.1", "0"}, {"b1.1", "E1.1", ""}, {"B1.1", "E1.1", "0"}, {"B0.1", "F1.1", ""}, {"b0.1", "F1.1", "0"}, {"b1.1", "b1.1", "0"}, {"b0.1", "b2.1", "0"},
		// Only strong beats count, whatever sounds on the others.
		{"D0.1 D0.1 D0.1 D0.1 D0.1 D0.1", "E0.1 A1.1 A1.1 E0.1 A1.1 A1.1", ""}, {"D0.1 D0.1 D0.1 D0.1 D0.1 D0.1", "A1.1 E0.1 E0.1 A1.1 E0.1 E0.1", "0 3"}, {"D0.3 E0.1", "A1.3 B1.1", "0 3"}, {"D0.3 E0.1", "A1.3 A1.1", "0 3"}, {"D0.3 E0.1", "A1.3 C1.1", "0"}, {"D0.2 D0.2 D0.2 D0.2", "A1.3 E0.3 G1.1 A1.1", "0 6"},
		{"D0.3 D0.3 D0.3 D0.3 D0.3 D0.3 D0.3 D0.3", "D1.3 D1.3 D1.3 D1.3 D1.3 D1.3 D1.3 D1.3", "0 3 6 9 12 15 18 21"}, {"D0.2 D0.2 D0.2 D0.2 D0.2 D0.2 D0.2 D0.2 D0.2 D0.2 D0.2 D0.2", "E0.3 D1.3 D1.3 D1.3 D1.3 D1.3 D1.3 D1.3", "3 6 9 12 15 18 21"},
	} {
		a, b := partOf(t, c.a), partOf(t, c.b)
		if concords := impl.DiscantConcords(a, b); textOfNumbers(concords) != c.want || textOfNumbers(impl.DiscantConcords(b, a)) != c.want {
			t.Errorf("DiscantConcords of %s and %s = %v, and exchanged %v; want %s", c.a, c.b, concords, impl.DiscantConcords(b, a), c.want)
		}
	}
}

// TestP87NotTogether checks all functions of two parts, as none of them takes others.
func TestP87NotTogether(t *testing.T) {
	some := someParts(t)
	for _, bad := range noParts(t) {
		for _, part := range [][]impl.Voice{{}, partOf(t, "D0.1"), partOf(t, "D0.2 F0.1 G1.3"), partOf(t, "A1.3 D0.3")} {
			checkNotTogether(t, bad, part)
		}
		checkNotTogether(t, bad, bad)
		if n := sumOf(beatsOfPart(bad)); n >= 1 && n <= 24 {
			checkNotTogether(t, bad, slices.Repeat(partOf(t, "D0.1"), n))
		}
	}
	for n := range 25 {
		for _, part := range some {
			if beats := sumOf(beatsOfPart(part)); n <= 12 && n != beats {
				checkNotTogether(t, part, slices.Repeat(partOf(t, "D0.1"), n))
			} else if n == beats && (!impl.DiscantTogether(part, part) || n <= 12 && !impl.DiscantTogether(part, slices.Repeat(partOf(t, "b1.1"), n))) {
				t.Errorf("DiscantTogether(%v, ..) with a part of as many beats does not hold", part)
			}
		}
	}
	for _, p := range somePairs(t) {
		if !impl.DiscantTogether(p.a, p.b) || !impl.DiscantTogether(p.b, p.a) {
			t.Errorf("DiscantTogether(%v, %v) does not hold", p.a, p.b)
		}
	}
}

func checkNotTogether(t *testing.T, a, b []impl.Voice) {
	t.Helper()
	for _, p := range []pair{{a, b}, {b, a}} {
		if impl.DiscantTogether(p.a, p.b) || impl.DiscantOk(p.a, p.b) || len(impl.DiscantConcords(p.a, p.b)) != 0 {
			t.Errorf("%v and %v are together: %v, DiscantOk is %v, and DiscantConcords %v", p.a, p.b, impl.DiscantTogether(p.a, p.b), impl.DiscantOk(p.a, p.b), impl.DiscantConcords(p.a, p.b))
		}
		if impl.DiscantParallels(p.a, p.b) != -1 || impl.DiscantContrary(p.a, p.b) != -1 || impl.DiscantCross(p.a, p.b) != -1 {
			t.Errorf("%v and %v have %d parallels, %d contrary motions, and cross %d times", p.a, p.b, impl.DiscantParallels(p.a, p.b), impl.DiscantContrary(p.a, p.b), impl.DiscantCross(p.a, p.b))
		}
	}
}

func TestP88DiscantOk(t *testing.T) {
	good, strongOnly, moved := 0, 0, 0
	for _, p := range somePairs(t) {
		ok := impl.DiscantOk(p.a, p.b)
		if ok != discantOf(p.a, p.b) || impl.DiscantOk(p.b, p.a) != ok {
			t.Errorf("DiscantOk(%v, %v) = %v, and exchanged %v", p.a, p.b, ok, impl.DiscantOk(p.b, p.a))
		}
		all := len(impl.DiscantConcords(p.a, p.b)) == (impl.PartBeats(p.a)+2)/3
		if !ok {
			if all {
				strongOnly++
			}
			continue
		}
		good++
		slowA, _ := impl.PartSlow(p.a)
		slowB, _ := impl.PartSlow(p.b)
		if !all || !impl.DiscantOk(slowA, slowB) || !impl.DiscantOk(slowA, p.b) || !impl.DiscantOk(p.a, slowB) || !impl.DiscantOk(p.a, p.a) {
			t.Errorf("DiscantOk(%v, %v) holds, but not of the slower ones %v and %v, or not all of %v are concords", p.a, p.b, slowA, slowB, impl.DiscantConcords(p.a, p.b))
		}
		higher, ok := impl.DiscantMove(p.b, 7)
		if ok && slices.Equal(softOf(higher), softOf(p.b)) {
			moved++
			if !impl.DiscantOk(p.a, higher) {
				t.Errorf("DiscantOk(%v, %v) holds, but not with the second one moved to %v", p.a, p.b, higher)
			}
		}
	}
	if good < 1000 || strongOnly < 200 || moved < 500 {
		t.Errorf("just %d pairs hold, %d fail by their last beat alone, and %d can be moved", good, strongOnly, moved)
	}
}

func softOf(part []impl.Voice) []bool {
	list := []bool{}
	for _, v := range part {
		list = append(list, v.Tone.Soft)
	}
	return list
}

func TestP88DiscantOkEdges(t *testing.T) {
	for _, c := range []struct {
		a, b string
		want bool
	}{
		{"", "", true}, {"D0.1", "A1.1", true}, {"D0.1", "E0.1", false}, {"D0.2", "A1.2", true}, {"D0.3", "G1.3", true},
		// The last beat is no strong one.
		{"D0.1 E0.1", "A1.1 B1.1", true}, {"D0.1 E0.1", "A1.1 C1.1", false}, {"D0.2 E0.1", "A1.2 F0.1", false}, {"D0.1 E0.1 D0.1", "A1.1 F0.1 D0.1", true}, {"D0.1 E0.1 D0.1", "A1.3", true}, {"D0.1 E0.2", "A1.3", true}, {"D0.1 F0.2", "A1.3", false}, {"D0.1 D0.2", "A1.1 b1.2", false},
		{"D0.3 D0.2", "A1.3 D0.1 A1.1", true}, {"D0.3 D0.2", "A1.3 D0.1 F0.1", false}, {"D0.3 D0.2", "A1.3 F0.1 D0.1", false}, {"D0.3 D0.3", "A1.3 D0.1 D0.1 F0.1", false}, {"F0.3 F0.3", "F0.3 b1.2 B1.1", false}, {"F0.3 F0.3", "F0.3 b1.1 B1.1 b1.1", true},
		// The last beat is a strong one.
		{"D0.3 E0.1", "A1.3 B1.1", true}, {"D0.3 E0.1", "A1.3 b1.1", false}, {"D0.1 F0.1 F0.1 D0.1", "D0.1 G1.1 G1.1 D0.1", true}, {"D0.1 F0.1 F0.1 D0.1", "D0.1 G1.1 G1.1 E0.1", false}, {"D0.3 D0.3 D0.1", "A1.3 D0.3 D1.1", true}, {"D0.3 D0.3 D0.1", "A1.3 D0.3 F0.1", false},
		// Some other strong beat makes none.
		{"D0.1 D0.2", "E0.1 D0.2", false}, {"D0.3 E0.3 D0.3", "D0.3 D0.3 D0.3", false}, {"D0.2 E0.2 D0.2", "D0.3 D0.3", false}, {"D0.3 D0.3 D0.3 D0.3 D0.3 D0.3 D0.3 D0.3", "A1.3 A1.3 A1.3 A1.3 A1.3 A1.3 F0.1 A1.2 A1.3", false}, {"D0.3 D0.3 D0.3 D0.3 D0.3 D0.3 D0.3 D0.3", "A1.3 A1.3 A1.3 A1.3 A1.3 A1.3 A1.1 F0.2 A1.3", true}, {"D0.3 D0.3 D0.3 D0.3 D0.3 D0.3 D0.3 D0.3", "A1.3 A1.3 A1.3 A1.3 A1.3 A1.3 A1.3 A1.2 F0.1", false},
	} {
		a, b := partOf(t, c.a), partOf(t, c.b)
		if impl.DiscantOk(a, b) != c.want || impl.DiscantOk(b, a) != c.want {
			t.Errorf("DiscantOk of %s and %s = %v, and exchanged %v", c.a, c.b, impl.DiscantOk(a, b), impl.DiscantOk(b, a))
		}
	}
	if !impl.DiscantTogether(nil, nil) || !impl.DiscantOk(nil, nil) || !impl.DiscantOk(nil, []impl.Voice{}) {
		t.Error("DiscantOk of parts without beats does not hold")
	}
}

func TestP89DiscantParallels(t *testing.T) {
	found := 0
	for _, p := range somePairs(t) {
		many := impl.DiscantParallels(p.a, p.b)
		if many != parallelsOf(p.a, p.b) || impl.DiscantParallels(p.b, p.a) != many || many > max(0, impl.PartBeats(p.a)-1) {
			t.Errorf("DiscantParallels(%v, %v) = %d, and exchanged %d; want %d", p.a, p.b, many, impl.DiscantParallels(p.b, p.a), parallelsOf(p.a, p.b))
		}
		if own := impl.DiscantParallels(p.a, p.a); own != shiftsOf(p.a) {
			t.Errorf("DiscantParallels(%v) of a part and itself = %d; want %d", p.a, own, shiftsOf(p.a))
		}
		if together := many + impl.DiscantContrary(p.a, p.b); together > shiftsOf(p.a) || together > shiftsOf(p.b) {
			t.Errorf("%v and %v have %d parallels and contrary motions, but %d and %d changes", p.a, p.b, together, shiftsOf(p.a), shiftsOf(p.b))
		}
		if many > 0 && !slices.Equal(p.a, p.b) {
			found++
		}
	}
	if found < 300 {
		t.Errorf("just %d pairs have parallels", found)
	}
}

// motionCases have the numbers of parallels and of contrary motions.
var motionCases = []struct {
	a, b                string
	parallels, contrary int
}{
	{"", "", 0, 0}, {"D0.1", "A1.1", 0, 0}, {"D0.3", "A1.3", 0, 0},
	// In the same direction, by the same number of steps, with both concords or one.
	{"D0.1 E0.1", "A1.1 B1.1", 1, 0}, {"E0.1 D0.1", "B1.1 A1.1", 1, 0}, {"D0.1 E0.1", "G1.1 A1.1", 1, 0}, {"D0.1 G1.1", "D1.1 G2.1", 1, 0}, {"D0.1 E0.1", "D0.1 E0.1", 1, 0}, {"D0.1 E0.1", "A1.1 b1.1", 0, 0}, {"E0.1 D0.1", "b1.1 A1.1", 0, 0}, {"D0.1 E0.1", "F0.1 G1.1", 0, 0}, {"F0.1 G1.1", "b1.1 C1.1", 1, 0}, {"F0.1 G1.1", "B1.1 C1.1", 0, 0}, {"D0.1 E0.1", "A2.1 B2.1", 1, 0},
	// In the same direction, by other numbers of steps.
	{"D0.1 E0.1", "A1.1 E1.1", 0, 0}, {"D0.1 E0.1", "G1.1 B1.1", 0, 0}, {"D1.1 C1.1", "D1.1 G1.1", 0, 0}, {"D0.1 A1.1", "D0.1 A2.1", 0, 0}, {"D0.1 E0.1", "D0.1 E1.1", 0, 0},
	// In opposite directions, by the same or by other numbers of steps, concords or none.
	{"D0.1 E0.1", "A1.1 G1.1", 0, 1}, {"G1.1 D0.1", "G1.1 C1.1", 0, 1}, {"D0.1 A1.1", "A1.1 D0.1", 0, 1}, {"F0.1 G1.1", "A1.1 G1.1", 0, 1}, {"D0.1 G2.1", "E0.1 G0.1", 0, 1},
	// One stays or both do, and a change to the other tone of one step is none.
	{"D0.2", "A1.1 G1.1", 0, 0}, {"D0.1 D0.1", "A1.1 G1.1", 0, 0}, {"D0.1 D0.1", "A1.1 A1.1", 0, 0}, {"b1.1 B1.1", "F0.1 E0.1", 0, 0}, {"b1.1 B1.1", "b1.1 B1.1", 0, 0}, {"B1.1 b1.1", "E0.1 F0.1", 0, 0},
	// Both change, but not at the same beat.
	{"D0.2 E0.1", "A1.1 B1.2", 0, 0}, {"D0.2 E0.1", "A1.1 G1.2", 0, 0}, {"D0.2 E0.1", "A1.2 B1.1", 1, 0},
	// At the first and the last beat, and not from the last beat to the first one.
	{"D0.1 E0.2", "A1.1 B1.2", 1, 0}, {"D0.2 E0.1", "D1.2 E1.1", 1, 0}, {"D0.1 E0.1 F0.1", "A1.1 B1.1 C1.1", 2, 0}, {"D0.1 E0.1 D0.1", "A1.1 G1.1 A1.1", 0, 2}, {"D0.2 E0.1", "A1.2 G1.1", 0, 1}, {"D0.1 E0.2", "A1.1 G1.2", 0, 1}, {"D0.2 E0.2 D0.1", "A1.2 B1.2 A1.1", 2, 0}, {"D0.1 D0.1 E0.1", "A1.1 B1.1 B1.1", 0, 0}, {"E0.1 D0.1 D0.1", "B1.1 B1.1 A1.1", 0, 0},
	{"D0.1 E0.1 D0.1 E0.1 D0.1 E0.1 D0.1 E0.1 D0.1 E0.1 D0.1 E0.1", "A1.1 B1.1 A1.1 B1.1 A1.1 B1.1 A1.1 B1.1 A1.1 B1.1 A1.1 B1.1", 11, 0},
	{"D0.2 E0.2 D0.2 E0.2 D0.2 E0.2 D0.2 E0.2 D0.2 E0.2 D0.2 E0.2", "A1.2 G1.2 A1.2 G1.2 A1.2 G1.2 A1.2 G1.2 A1.2 G1.2 A1.2 G1.2", 0, 11},
	{"D0.1 E0.1 D0.1 E0.1 D0.1", "D0.1 E0.1 F0.1 E0.1 D0.1", 2, 2},
}

func TestP89DiscantParallelsEdges(t *testing.T) {
	for _, c := range motionCases {
		a, b := partOf(t, c.a), partOf(t, c.b)
		if many := impl.DiscantParallels(a, b); many != c.parallels || impl.DiscantParallels(b, a) != c.parallels {
			t.Errorf("DiscantParallels of %s and %s = %d, and exchanged %d; want %d", c.a, c.b, many, impl.DiscantParallels(b, a), c.parallels)
		}
	}
}

func TestP90DiscantContrary(t *testing.T) {
	found := 0
	for _, p := range somePairs(t) {
		many := impl.DiscantContrary(p.a, p.b)
		if many != contraryOf(p.a, p.b) || impl.DiscantContrary(p.b, p.a) != many || impl.DiscantContrary(p.a, p.a) != 0 {
			t.Errorf("DiscantContrary(%v, %v) = %d, exchanged %d, and with itself %d; want %d", p.a, p.b, many, impl.DiscantContrary(p.b, p.a), impl.DiscantContrary(p.a, p.a), contraryOf(p.a, p.b))
		}
		slowA, _ := impl.PartSlow(p.a)
		slowB, _ := impl.PartSlow(p.b)
		if impl.DiscantContrary(slowA, slowB) != many || impl.DiscantParallels(slowA, slowB) != impl.DiscantParallels(p.a, p.b) {
			t.Errorf("DiscantContrary(%v, %v) = %d, but of the slower ones %d", p.a, p.b, many, impl.DiscantContrary(slowA, slowB))
		}
		if many > 0 {
			found++
		}
	}
	if found < 300 {
		t.Errorf("just %d pairs have contrary motions", found)
	}
}

func TestP90DiscantContraryEdges(t *testing.T) {
	for _, c := range motionCases {
		a, b := partOf(t, c.a), partOf(t, c.b)
		if many := impl.DiscantContrary(a, b); many != c.contrary || impl.DiscantContrary(b, a) != c.contrary {
			t.Errorf("DiscantContrary of %s and %s = %d, and exchanged %d; want %d", c.a, c.b, many, impl.DiscantContrary(b, a), c.contrary)
		}
	}
}

func TestP91DiscantCross(t *testing.T) {
	found, higher := 0, 0
	for _, p := range somePairs(t) {
		many, other := impl.DiscantCross(p.a, p.b), impl.DiscantCross(p.b, p.a)
		if many != crossOf(p.a, p.b) || other != crossOf(p.b, p.a) || many+other > impl.PartBeats(p.a) || impl.DiscantCross(p.a, p.a) != 0 {
			t.Errorf("DiscantCross(%v, %v) = %d, exchanged %d, and with itself %d; want %d", p.a, p.b, many, other, impl.DiscantCross(p.a, p.a), crossOf(p.a, p.b))
		}
		if many > 0 && other > 0 {
			found++
		}
		up, ok := impl.DiscantMove(p.b, 7)
		if !ok {
			continue
		}
		if above := impl.DiscantCross(p.a, up); above > many || above < 0 {
			t.Errorf("DiscantCross(%v, %v) = %d, but with the second one an octave higher %d", p.a, p.b, many, above)
		} else if above < many {
			higher++
		}
	}
	if found < 300 || higher < 300 {
		t.Errorf("just %d pairs cross, and %d less if one is higher", found, higher)
	}
}

func TestP91DiscantCrossEdges(t *testing.T) {
	for _, c := range []struct {
		a, b        string
		many, other int
	}{
		{"", "", 0, 0}, {"D0.1", "D0.1", 0, 0}, {"E0.1", "D0.1", 1, 0}, {"E0.3", "D0.3", 3, 0}, {"A2.1", "A1.1", 1, 0},
		// Of two tones of one step, with and without Soft, none has the greater step.
		{"B1.2", "b1.2", 0, 0}, {"b1.2", "B1.2", 0, 0}, {"B1.1 b1.1", "b1.2", 0, 0}, {"b1.1 C1.1", "B1.2", 1, 0}, {"b1.3", "A1.3", 3, 0}, {"B1.3", "C1.3", 0, 3},
		// They cross, and meet in one step.
		{"D0.1 E0.1 F0.1", "F0.1 E0.1 D0.1", 1, 1}, {"D0.2 G1.3", "F0.1 A1.2 F0.1 E0.1", 2, 3}, {"D0.1 E0.2 G1.3", "F0.3 G1.2 F0.1", 1, 3}, {"D0.3 D0.3", "D0.1 C0.1 E0.1 D0.1 C0.1 E0.1", 2, 2},
		// At the first and the last beat alone.
		{"E0.1 D0.2", "D0.3", 1, 0}, {"D0.2 E0.1", "D0.3", 1, 0}, {"E0.1 D0.1 E0.1", "D0.3", 2, 0},
		{"F2.2 F2.2 F2.2 F2.2 F2.2 F2.2 F2.2 F2.2 F2.2 F2.2 F2.2 F2.2", "E2.3 E2.3 E2.3 E2.3 E2.3 E2.3 E2.3 E2.3", 24, 0},
	} {
		a, b := partOf(t, c.a), partOf(t, c.b)
		if impl.DiscantCross(a, b) != c.many || impl.DiscantCross(b, a) != c.other {
			t.Errorf("DiscantCross of %s and %s = %d, and exchanged %d; want %d and %d", c.a, c.b, impl.DiscantCross(a, b), impl.DiscantCross(b, a), c.many, c.other)
		}
	}
}

func TestP92DiscantMove(t *testing.T) {
	moves := 0
	for _, part := range someParts(t) {
		for k := -22; k <= 22; k++ {
			argument := spare(part)
			moved, ok := impl.DiscantMove(argument, k)
			want, fine := movedOf(tonesOfPart(part), k)
			if ok != fine || !slices.Equal(argument, part) {
				t.Errorf("DiscantMove(%v, %d) = %v, %v", part, k, moved, ok)
				continue
			}
			if !ok {
				if len(moved) != 0 {
					t.Errorf("DiscantMove(%v, %d) fails with %v", part, k, moved)
				}
				continue
			}
			tones, _ := impl.MelodyMove(tonesOfPart(part), k)
			if !slices.Equal(moved, madeOf(want, beatsOfPart(part))) || !slices.Equal(tonesOfPart(moved), tones) || !impl.DiscantTogether(part, moved) {
				t.Errorf("DiscantMove(%v, %d) = %v", part, k, moved)
			}
			if contrary, parallels := impl.DiscantContrary(part, moved), impl.DiscantParallels(part, moved); contrary != 0 || parallels > impl.DiscantParallels(part, part) {
				t.Errorf("DiscantMove(%v, %d) = %v has %d contrary motions and %d parallels", part, k, moved, contrary, parallels)
			}
			checkApart(t, "DiscantMove", moved, argument, impl.Voice{Tone: noTone})
			moves++
		}
		for _, k := range farNumbers {
			if moved, ok := impl.DiscantMove(part, k); ok != (len(part) == 0) || len(moved) != 0 {
				t.Errorf("DiscantMove(%v, %d) = %v, %v", part, k, moved, ok)
			}
		}
	}
	if moves < 3000 {
		t.Errorf("just %d moves succeed", moves)
	}
}

func TestP92DiscantMoveEdges(t *testing.T) {
	for _, c := range []struct {
		part string
		k    int
		want string
	}{
		{"D0.2 F0.1 G1.3", 0, "D0.2 F0.1 G1.3"}, {"D0.2 F0.1 G1.3", 7, "D1.2 F1.1 G2.3"}, {"D0.2 F0.1 G1.3", 4, "A1.2 C1.1 D1.3"}, {"D1.2 F1.1 G2.3", -7, "D0.2 F0.1 G1.3"},
		{"E0.1 F0.3", 3, "A1.1 b1.3"}, {"E0.1 F0.3", 4, "B1.1 C1.3"}, {"F0.1 b1.2", 4, "C1.1 F1.2"}, {"C0.3 F0.2", 3, "F0.3 b1.2"}, {"b1.1 A1.2", 7, "b2.1 A2.2"}, {"b1.1 A1.2", 0, "b1.1 A1.2"},
		{"b0.2", 0, "B0.2"}, {"b0.2 b0.1", 7, "B1.2 B1.1"}, {"b0.1 B0.2", 7, "b1.1 B1.2"}, {"A1.2", 1, "B1.2"}, {"G0.1", 20, "F2.1"}, {"F2.3", -20, "G0.3"}, {"D0.1 D0.1 D0.1", 1, "E0.1 E0.1 E0.1"},
	} {
		if moved, ok := impl.DiscantMove(partOf(t, c.part), c.k); !ok || !slices.Equal(moved, partOf(t, c.want)) {
			t.Errorf("DiscantMove of %s by %d = %v, %v; want %s", c.part, c.k, moved, ok, c.want)
		}
	}
	for _, c := range []struct {
		part string
		k    int
	}{{"D0.2 E0.1", 1}, {"D0.2 F0.1 G1.3", -5}, {"D0.2 F0.1 G1.3", 14}, {"G0.1", -1}, {"G0.1", 21}, {"F2.3", 1}, {"b1.1 B1.1", 1}, {"F0.1 B1.2", 1}} {
		if moved, ok := impl.DiscantMove(partOf(t, c.part), c.k); ok || len(moved) != 0 {
			t.Errorf("DiscantMove of %s by %d = %v, %v", c.part, c.k, moved, ok)
		}
	}
}
