package tests

import (
	"math"
	"strconv"
	"strings"
	"testing"

	"loop.example/neumes/impl"
)

// farNumbers are numbers that lead out of the gamut from everywhere, some of them only if they do not wrap around.
var farNumbers = []int{21, -21, 28, -28, 1 << 32, -1 << 32, 7 << 40, -7 << 40, math.MaxInt, math.MaxInt - 20, math.MinInt, math.MinInt + 20}

func TestToneValid(t *testing.T) {
	for _, x := range allTones() {
		if !impl.ToneValid(x) {
			t.Errorf("ToneValid(%v) does not hold", x)
		}
	}
	for _, x := range badTones() {
		if impl.ToneValid(x) {
			t.Errorf("ToneValid(%v) holds", x)
		}
	}
}

func TestToneLetter(t *testing.T) {
	const letters = "GABCDEFGABCDEFGABCDEFBBB"
	for i, x := range allTones() {
		if got := impl.ToneLetter(x); got != letters[i:i+1] {
			t.Errorf("ToneLetter(%v) = %q", x, got)
		}
	}
	for _, x := range badTones() {
		if got := impl.ToneLetter(x); got != "" {
			t.Errorf("ToneLetter(%v) = %q", x, got)
		}
	}
}

func TestP1ToneHeight(t *testing.T) {
	heights := []int{0, 2, 4, 5, 7, 9, 10, 12, 14, 16, 17, 19, 21, 22, 24, 26, 28, 29, 31, 33, 34, 3, 15, 27}
	for i, x := range allTones() {
		h, ok := impl.ToneHeight(x)
		if !ok || h != heights[i] {
			t.Errorf("ToneHeight(%v) = %d, %v; want %d", x, h, ok, heights[i])
		}
		if up, is := octaveUp(x); is {
			if got, ok := impl.ToneHeight(up); !ok || got != h+12 {
				t.Errorf("ToneHeight(%v) = %d, %v; an octave lower it is %d", up, got, ok, h)
			}
		}
		if x.Soft {
			if got, ok := impl.ToneHeight(impl.Tone{Step: x.Step}); !ok || got != h+1 {
				t.Errorf("of step %d the heights are %d and, Soft, %d", x.Step, got, h)
			}
		}
	}
}

func TestP1ToneHeightInvalid(t *testing.T) {
	for _, x := range badTones() {
		if h, ok := impl.ToneHeight(x); ok || h != 0 {
			t.Errorf("ToneHeight(%v) = %d, %v", x, h, ok)
		}
	}
}

func TestP2ToneText(t *testing.T) {
	for i, x := range allTones() {
		s := impl.ToneText(x)
		if s != strings.Fields(toneTexts)[i] {
			t.Errorf("ToneText(%v) = %q", x, s)
			continue
		}
		if got, ok := impl.ToneFrom(s); !ok || got != x {
			t.Errorf("ToneFrom(%q) = %v, %v", s, got, ok)
		}
		if first := s[:1]; x.Soft && first != "b" || !x.Soft && first != impl.ToneLetter(x) {
			t.Errorf("ToneText(%v) = %q has not its letter", x, s)
		}
		if up, is := octaveUp(x); is {
			if want := s[:1] + string(s[1]+1); impl.ToneText(up) != want {
				t.Errorf("ToneText(%v) = %q; want %q", up, impl.ToneText(up), want)
			}
		}
	}
}

func TestP2ToneTextInvalid(t *testing.T) {
	for _, x := range badTones() {
		if s := impl.ToneText(x); s != "" {
			t.Errorf("ToneText(%v) = %q", x, s)
		}
	}
}

// checkToneFrom compares ToneFrom with a search in toneTexts.
func checkToneFrom(t *testing.T, s string) bool {
	want, is := impl.Tone{}, false
	for i, text := range strings.Fields(toneTexts) {
		if text == s {
			want, is = allTones()[i], true
		}
	}
	if got, ok := impl.ToneFrom(s); ok != is || got != want {
		t.Errorf("ToneFrom(%q) = %v, %v; want %v, %v", s, got, ok, want, is)
	}
	return is
}

func TestP3ToneFromEachShortText(t *testing.T) {
	checkToneFrom(t, "")
	many := 0
	for a := range 256 {
		checkToneFrom(t, string([]byte{byte(a)}))
		for b := range 256 {
			if checkToneFrom(t, string([]byte{byte(a), byte(b)})) {
				many++
			}
		}
	}
	if many != 24 {
		t.Errorf("%d texts are those of tones", many)
	}
}

func TestP3ToneFrom(t *testing.T) {
	for _, x := range allTones() {
		s := impl.ToneText(x)
		got, ok := impl.ToneFrom(s)
		if !ok || !impl.ToneValid(got) || impl.ToneText(got) != s {
			t.Errorf("ToneFrom(%q) = %v, %v", s, got, ok)
		}
		for _, bad := range []string{s + " ", " " + s, s[:len(s)-1], s[1:], s + "0", "0" + s, s + s, s + "\n", s + "\x00", s[:1] + " " + s[1:], s[:1] + "-" + s[1:], s[:1] + "0" + s[1:]} {
			checkToneFrom(t, bad)
		}
	}
	for _, bad := range []string{"B-1", "G10", "b10", "G21", "C00", "bB1", "H0", "g0", "a0", "b3", "G3", "G9", "é", "G١", "\xff1"} {
		checkToneFrom(t, bad)
	}
}

// nearAndFar are the numbers from one end of the gamut to the other and some beyond, and some far away.
func nearAndFar() []int {
	list := append([]int{}, farNumbers...)
	for k := -25; k <= 25; k++ {
		list = append(list, k)
	}
	return list
}

func checkToneAbove(t *testing.T, x impl.Tone, k int, soft bool) {
	got, ok := impl.ToneAbove(x, k, soft)
	want := impl.Tone{Step: x.Step + k, Soft: soft}
	is := isTone(x) && k >= -20 && k <= 20 && isTone(want)
	if !is {
		want = impl.Tone{}
	}
	if ok != is || got != want {
		t.Errorf("ToneAbove(%v, %d, %v) = %v, %v; want %v, %v", x, k, soft, got, ok, want, is)
		return
	}
	if !ok {
		return
	}
	if d, ok := impl.ToneSteps(x, got); !ok || d != k {
		t.Errorf("ToneSteps(%v, %v) = %d, %v; want %d", x, got, d, ok, k)
	}
	if back, ok := impl.ToneAbove(got, -k, x.Soft); !ok || back != x {
		t.Errorf("ToneAbove(%v, %d, %v) = %v, %v; want %v", got, -k, x.Soft, back, ok, x)
	}
}

func TestP4ToneAbove(t *testing.T) {
	for _, k := range nearAndFar() {
		for _, x := range append(allTones(), badTones()...) {
			checkToneAbove(t, x, k, false)
			checkToneAbove(t, x, k, true)
		}
	}
}

func TestP4ToneAboveEdges(t *testing.T) {
	for _, c := range []struct {
		from string
		k    int
		soft bool
		want string
	}{
		{"G0", 20, false, "F2"}, {"F2", -20, false, "G0"}, {"G0", 2, true, "b0"}, {"b1", 0, false, "B1"},
		{"B1", 0, true, "b1"}, {"b0", 14, true, "b2"}, {"b2", -14, false, "B0"}, {"D0", 0, false, "D0"},
		{"G0", -1, false, ""}, {"F2", 1, false, ""}, {"G0", 21, false, ""}, {"D0", 0, true, ""}, {"B0", 1, true, ""},
	} {
		got, ok := impl.ToneAbove(toneOf(t, c.from), c.k, c.soft)
		if ok != (c.want != "") || ok && got != toneOf(t, c.want) || !ok && got != (impl.Tone{}) {
			t.Errorf("ToneAbove(%s, %d, %v) = %v, %v; want %q", c.from, c.k, c.soft, got, ok, c.want)
		}
	}
}

func TestToneStepsAndSemis(t *testing.T) {
	heights := []int{0, 2, 4, 5, 7, 9, 10, 12, 14, 16, 17, 19, 21, 22, 24, 26, 28, 29, 31, 33, 34, 3, 15, 27}
	for i, a := range allTones() {
		for k, b := range allTones() {
			if d, ok := impl.ToneSteps(a, b); !ok || d != b.Step-a.Step {
				t.Errorf("ToneSteps(%v, %v) = %d, %v", a, b, d, ok)
			}
			if d, ok := impl.ToneSemis(a, b); !ok || d != heights[k]-heights[i] {
				t.Errorf("ToneSemis(%v, %v) = %d, %v", a, b, d, ok)
			}
		}
	}
}

func checkNoDifference(t *testing.T, a, b impl.Tone) {
	if d, ok := impl.ToneSteps(a, b); ok || d != 0 {
		t.Errorf("ToneSteps(%v, %v) = %d, %v", a, b, d, ok)
	}
	if d, ok := impl.ToneSemis(a, b); ok || d != 0 {
		t.Errorf("ToneSemis(%v, %v) = %d, %v", a, b, d, ok)
	}
	if s := impl.ToneInterval(a, b); s != "" {
		t.Errorf("ToneInterval(%v, %v) = %q", a, b, s)
	}
}

func TestP4P5InvalidTones(t *testing.T) {
	for _, bad := range badTones() {
		for _, x := range allTones() {
			checkNoDifference(t, bad, x)
			checkNoDifference(t, x, bad)
		}
		checkNoDifference(t, bad, bad)
	}
}

// intervalNames tells, for each number of steps within an octave, the letters by the number of semitones.
var intervalNames = []map[int]string{
	{-1: "d", 0: "p", 1: "a"},
	{1: "s", 2: "g"},
	{3: "s", 4: "g"},
	{5: "p", 6: "a"},
	{6: "d", 7: "p"},
	{8: "s", 9: "g"},
	{10: "s", 11: "g"},
}

func TestP5ToneIntervalTable(t *testing.T) {
	for _, a := range allTones() {
		for _, b := range allTones() {
			steps, semis := b.Step-a.Step, heightOf(b)-heightOf(a)
			if steps < 0 || steps == 0 && semis < 0 {
				continue
			}
			want := strconv.Itoa(steps+1) + intervalNames[steps%7][semis-steps/7*12]
			if got := impl.ToneInterval(a, b); got != want {
				t.Errorf("ToneInterval(%v, %v) = %q; want %q", a, b, got, want)
			}
			if got := impl.ToneInterval(b, a); got != want {
				t.Errorf("ToneInterval(%v, %v) = %q; want %q", b, a, got, want)
			}
		}
	}
}

// heightOf counts the semitones step by step, as the document tells them.
func heightOf(x impl.Tone) int {
	h := 0
	for step := 1; step <= x.Step; step++ {
		h += 2
		if step%7 == 3 || step%7 == 6 {
			h--
		}
	}
	if x.Soft {
		h--
	}
	return h
}

func TestP5ToneIntervalEdges(t *testing.T) {
	for _, c := range []struct{ a, b, want string }{
		{"b1", "B1", "1a"}, {"B1", "b1", "1a"}, {"b1", "b1", "1p"}, {"B0", "b1", "8d"}, {"b0", "B1", "8a"},
		{"b0", "b1", "8p"}, {"B0", "b2", "15d"}, {"b0", "B2", "15a"}, {"b0", "b2", "15p"}, {"b0", "E0", "4a"},
		{"F0", "B1", "4a"}, {"F0", "b1", "4p"}, {"B0", "F0", "5d"}, {"b0", "F0", "5p"}, {"E0", "b1", "5d"},
		{"b0", "E1", "11a"}, {"B0", "F1", "12d"}, {"B0", "F2", "19d"}, {"b0", "F2", "19p"}, {"E0", "b2", "12d"},
		{"A0", "b0", "2s"}, {"A0", "B0", "2g"}, {"B0", "C0", "2s"}, {"b0", "C0", "2g"}, {"G0", "b0", "3s"},
		{"G0", "F2", "21s"}, {"G0", "F0", "7s"}, {"G0", "E0", "6g"}, {"G0", "A1", "9g"}, {"G0", "G2", "15p"},
		{"F0", "E1", "7g"}, {"D0", "F0", "3s"}, {"F0", "A1", "3g"}, {"D0", "b1", "6s"},
	} {
		a, b := toneOf(t, c.a), toneOf(t, c.b)
		if got := impl.ToneInterval(a, b); got != c.want {
			t.Errorf("ToneInterval(%s, %s) = %q; want %q", c.a, c.b, got, c.want)
		}
		if got := impl.ToneInterval(b, a); got != c.want {
			t.Errorf("ToneInterval(%s, %s) = %q; want %q", c.b, c.a, got, c.want)
		}
	}
}

func TestP5ToneIntervalOctaves(t *testing.T) {
	for _, a := range allTones() {
		if got := impl.ToneInterval(a, a); got != "1p" {
			t.Errorf("ToneInterval(%v, %v) = %q", a, a, got)
		}
		upA, isA := octaveUp(a)
		if isA && impl.ToneInterval(a, upA) != "8p" {
			t.Errorf("ToneInterval(%v, %v) = %q", a, upA, impl.ToneInterval(a, upA))
		}
		for _, b := range allTones() {
			upB, isB := octaveUp(b)
			if isA && isB && impl.ToneInterval(a, b) != impl.ToneInterval(upA, upB) {
				t.Errorf("the interval of %v and %v is another one an octave higher", a, b)
			}
		}
	}
}

func TestP6IntervalsOfOneName(t *testing.T) {
	semis := map[string]int{}
	for _, a := range allTones() {
		for _, b := range allTones() {
			name := impl.ToneInterval(a, b)
			if name == "" {
				t.Fatalf("ToneInterval(%v, %v) is empty", a, b)
			}
			if strings.ContainsAny(name, "da") {
				continue
			}
			d, _ := impl.ToneSemis(a, b)
			d = max(d, -d)
			if old, is := semis[name]; is && old != d {
				t.Errorf("ToneInterval(%v, %v) = %q has %d semitones, and not %d", a, b, name, d, old)
			}
			semis[name] = d
		}
	}
	if len(semis) != 32 { // 9 pure ones, 12 small ones and 11 great ones: only one pair of tones has the number 21
		t.Errorf("there are %d intervals other than d and a", len(semis))
	}
}

// checkStepHigher compares the interval of two tones with that of two tones one step higher each.
func checkStepHigher(t *testing.T, a, b, highA, highB impl.Tone) {
	d, _ := impl.ToneSemis(a, b)
	high, _ := impl.ToneSemis(highA, highB)
	sameName := impl.ToneInterval(a, b) == impl.ToneInterval(highA, highB)
	// two tones of one step have an interval without a direction
	if a.Step == b.Step {
		d, high = max(d, -d), max(high, -high)
	}
	if sameName != (d == high) {
		t.Errorf("ToneInterval(%v, %v) = %q, ToneInterval(%v, %v) = %q, with %d and %d semitones", a, b, impl.ToneInterval(a, b), highA, highB, impl.ToneInterval(highA, highB), d, high)
	}
}

func TestP6IntervalsOneStepHigher(t *testing.T) {
	for _, a := range allTones() {
		for _, b := range allTones() {
			for _, soft := range []bool{false, true} {
				highA, okA := impl.ToneAbove(a, 1, soft)
				highB, okB := impl.ToneAbove(b, 1, false)
				softB, okSoft := impl.ToneAbove(b, 1, true)
				if okA && okB {
					checkStepHigher(t, a, b, highA, highB)
				}
				if okA && okSoft {
					checkStepHigher(t, a, b, highA, softB)
				}
			}
		}
	}
}
