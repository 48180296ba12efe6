package tests

import (
	"slices"
	"strings"
	"testing"

	"loop.example/neumes/impl"
)

func TestMelodyValid(t *testing.T) {
	for _, m := range someMelodies() {
		if !impl.MelodyValid(m) {
			t.Errorf("MelodyValid(%s) does not hold", textOf(m))
		}
	}
	for _, m := range noMelodies(t) {
		if impl.MelodyValid(m) {
			t.Errorf("MelodyValid(%v) holds", m)
		}
	}
	if !impl.MelodyValid(nil) || !impl.MelodyValid(repeated(t, "b0", 24)) || impl.MelodyValid(repeated(t, "b0", 25)) {
		t.Errorf("MelodyValid does not hold for no tones or MelodyMax tones, or holds for one more")
	}
}

func TestP11StepsAndSemis(t *testing.T) {
	for _, m := range someMelodies() {
		steps, semis := impl.MelodySteps(m), impl.MelodySemis(m)
		if !slices.Equal(steps, stepsOf(m)) || !slices.Equal(semis, semisOf(m)) {
			t.Errorf("of %s, MelodySteps is %v, MelodySemis is %v", textOf(m), steps, semis)
		}
		if len(m) < 2 {
			continue
		}
		d, _ := impl.ToneSteps(m[0], m[len(m)-1])
		h, _ := impl.ToneSemis(m[0], m[len(m)-1])
		if len(steps) != len(m)-1 || len(semis) != len(m)-1 || sumOf(steps) != d || sumOf(semis) != h {
			t.Errorf("of %s, MelodySteps is %v, MelodySemis is %v; from end to end are %d and %d", textOf(m), steps, semis, d, h)
		}
	}
}

func TestP11StepsAndSemisOfNoMelody(t *testing.T) {
	for _, m := range noMelodies(t) {
		if steps, semis := impl.MelodySteps(m), impl.MelodySemis(m); len(steps) != 0 || len(semis) != 0 {
			t.Errorf("MelodySteps(%v) = %v, MelodySemis is %v", m, steps, semis)
		}
	}
}

func TestP12MelodyRange(t *testing.T) {
	for _, m := range someMelodies() {
		least, greatest, ok := impl.MelodyRange(m)
		if len(m) == 0 {
			if ok || least != 0 || greatest != 0 {
				t.Errorf("MelodyRange of no tones = %d, %d, %v", least, greatest, ok)
			}
			continue
		}
		steps := []int{}
		for _, x := range m {
			steps = append(steps, x.Step)
		}
		if !ok || least != slices.Min(steps) || greatest != slices.Max(steps) {
			t.Errorf("MelodyRange(%s) = %d, %d, %v", textOf(m), least, greatest, ok)
		}
		back, _ := impl.MelodyBack(m)
		if l, g, ok := impl.MelodyRange(back); !ok || l != least || g != greatest {
			t.Errorf("MelodyRange(%s) = %d, %d; backwards it is %d, %d, %v", textOf(m), least, greatest, l, g, ok)
		}
	}
}

func TestP12MelodyRangeInvalid(t *testing.T) {
	for _, m := range append(noMelodies(t), nil) {
		if least, greatest, ok := impl.MelodyRange(m); ok || least != 0 || greatest != 0 {
			t.Errorf("MelodyRange(%v) = %d, %d, %v", m, least, greatest, ok)
		}
	}
}

// movedOf finds MelodyMove by trying both kinds of each tone, the first ones not Soft ahead of the others.
func movedOf(m []impl.Tone, k int) ([]impl.Tone, bool) {
	if k < -20 || k > 20 {
		return nil, len(m) == 0
	}
	return movedBehind(m, k, nil)
}

func movedBehind(m []impl.Tone, k int, ahead []impl.Tone) ([]impl.Tone, bool) {
	i := len(ahead)
	if i == len(m) {
		return ahead, true
	}
	for _, soft := range []bool{false, true} {
		x := impl.Tone{Step: m[i].Step + k, Soft: soft}
		if !isTone(x) || i > 0 && heightOf(x)-heightOf(ahead[i-1]) != heightOf(m[i])-heightOf(m[i-1]) {
			continue
		}
		if all, ok := movedBehind(m, k, append(slices.Clone(ahead), x)); ok {
			return all, true
		}
	}
	return nil, false
}

func TestP13MelodyMove(t *testing.T) {
	succeeded, softened := 0, 0
	for _, m := range someMelodies() {
		for _, k := range nearAndFar() {
			got, ok := impl.MelodyMove(m, k)
			want, is := movedOf(m, k)
			if ok != is || !slices.Equal(got, want) {
				t.Errorf("MelodyMove(%s, %d) = %v, %v; want %v, %v", textOf(m), k, got, ok, want, is)
			}
			if !ok || len(m) == 0 {
				continue
			}
			succeeded++
			if k%7 != 0 && strings.Contains(textOf(got), "b") {
				softened++
			}
			checkMoved(t, m, k, got)
		}
	}
	if succeeded < 5000 || softened < 100 {
		t.Errorf("only %d moves succeeded, %d of them to Soft tones", succeeded, softened)
	}
}

func checkMoved(t *testing.T, m []impl.Tone, k int, moved []impl.Tone) {
	if !impl.MelodySame(m, moved) {
		t.Errorf("MelodyMove(%s, %d) = %s is not the same", textOf(m), k, textOf(moved))
	}
	for i := range m {
		if moved[i].Step != m[i].Step+k {
			t.Errorf("MelodyMove(%s, %d) = %s has other steps", textOf(m), k, textOf(moved))
		}
	}
	back, ok := impl.MelodyMove(moved, -k)
	if !ok || len(back) != len(m) {
		t.Errorf("MelodyMove(%s, %d) = %v, %v", textOf(moved), -k, back, ok)
		return
	}
	for i := range m {
		if back[i].Step != m[i].Step {
			t.Errorf("MelodyMove(%s, %d) = %s; want the steps of %s", textOf(moved), -k, textOf(back), textOf(m))
		}
	}
}

func TestP13MelodyMoveEdges(t *testing.T) {
	for _, c := range []struct {
		from string
		k    int
		want string
	}{
		{"D0 F0 G1 A1 b1 A1", 4, "A1 C1 D1 E1 F1 E1"}, {"A1 C1 D1 E1 F1 E1", -4, "D0 F0 G1 A1 b1 A1"},
		{"D0 F0 G1 A1 b1 A1", 2, ""}, {"D0 F0 G1 A1 B1 A1", 4, ""}, {"D0 F0 G1 A1 B1 A1", 3, "G1 b1 C1 D1 E1 D1"},
		{"G0", -1, ""}, {"F2", 1, ""}, {"G0", 20, "F2"}, {"F2", -20, "G0"}, {"G0 F2", 0, "G0 F2"}, {"G0 F2", 1, ""},
		{"G0", 2, "B0"}, {"b0", 0, "B0"}, {"B0", 0, "B0"}, {"b0", 7, "B1"}, {"b2", -14, "B0"}, {"b1", 1, "C1"},
		{"b0 b0", 0, "B0 B0"}, {"b0 B0", 0, "b0 B0"}, {"B0 b0", 14, "B2 b2"}, {"b0 b1", 7, "B1 B2"}, {"b0 B1 b2", 0, "b0 B1 b2"},
		{"A1 b1", 0, "A1 b1"}, {"A1 b1", 7, "A2 b2"}, {"b1 A1", -7, "b0 A0"}, {"A1 B1", 1, "b1 C1"}, {"A1 B1", 4, ""}, {"A1 B1", -1, "G1 A1"},
		{"B0 C0", 0, "B0 C0"}, {"E0 F0", 4, "B1 C1"}, {"F0 E0", 4, "C1 B1"}, {"F0 G1", 3, "b1 C1"}, {"G1 A1", 1, "A1 B1"},
		{"E0 F0", 1, ""}, {"E0 F0", -1, ""}, {"E0 F0", 3, "A1 b1"},
	} {
		got, ok := impl.MelodyMove(tonesOf(t, c.from), c.k)
		if ok != (c.want != "") || !slices.Equal(got, tonesOf(t, c.want)) {
			t.Errorf("MelodyMove(%s, %d) = %v, %v; want %q", c.from, c.k, got, ok, c.want)
		}
	}
}

func TestP13MelodyMoveOfNoMelody(t *testing.T) {
	for _, m := range noMelodies(t) {
		for _, k := range []int{0, 1, -1, 7, -7, -21, 21} {
			if got, ok := impl.MelodyMove(m, k); ok || len(got) != 0 {
				t.Errorf("MelodyMove(%v, %d) = %v, %v", m, k, got, ok)
			}
		}
	}
}

func TestP13MelodyMoveOfNoTones(t *testing.T) {
	for _, k := range nearAndFar() {
		if got, ok := impl.MelodyMove(nil, k); !ok || len(got) != 0 {
			t.Errorf("MelodyMove of no tones by %d = %v, %v", k, got, ok)
		}
		if got, ok := impl.MelodyMove([]impl.Tone{}, k); !ok || len(got) != 0 {
			t.Errorf("MelodyMove of no tones by %d = %v, %v", k, got, ok)
		}
	}
}

// checkOctave is for moves by octaves for which the range has room.
func checkOctave(t *testing.T, m []impl.Tone, k int) {
	got, ok := impl.MelodyMove(m, k)
	if !ok || len(got) != len(m) {
		t.Errorf("MelodyMove(%s, %d) = %v, %v", textOf(m), k, got, ok)
		return
	}
	if !slices.ContainsFunc(m, func(x impl.Tone) bool { return x.Step%7 != 2 }) {
		return // only B's: TestP14MelodyMoveOfBs tells which of them are Soft
	}
	for i := range m {
		if got[i].Soft != m[i].Soft {
			t.Errorf("MelodyMove(%s, %d) = %s has other Soft tones", textOf(m), k, textOf(got))
		}
	}
}

func TestP14MelodyMoveByOctaves(t *testing.T) {
	for _, m := range someMelodies() {
		least, greatest, _ := impl.MelodyRange(m)
		for _, k := range []int{-14, -7, 0, 7, 14} {
			if least+k >= 0 && greatest+k <= 20 {
				checkOctave(t, m, k)
			} else if got, ok := impl.MelodyMove(m, k); ok && len(m) > 0 {
				t.Errorf("MelodyMove(%s, %d) = %v", textOf(m), k, got)
			}
		}
	}
}

func TestP14MelodyMoveOfBs(t *testing.T) {
	for _, c := range []struct {
		from string
		k    int
		want string
	}{
		{"b0", 7, "B1"}, {"b0 b0 b0", 7, "B1 B1 B1"}, {"B0 B1", 7, "B1 B2"}, {"b0 b1", 7, "B1 B2"}, {"b0 B0", 7, "b1 B1"},
		{"B0 b0", 7, "B1 b1"}, {"B0 B0 b0", 7, "B1 B1 b1"}, {"b0 b0 B0", 7, "b1 b1 B1"}, {"b1 b2", -7, "B0 B1"}, {"b0 A0", 7, "b1 A1"},
	} {
		if got, ok := impl.MelodyMove(tonesOf(t, c.from), c.k); !ok || !slices.Equal(got, tonesOf(t, c.want)) {
			t.Errorf("MelodyMove(%s, %d) = %v, %v; want %s", c.from, c.k, got, ok, c.want)
		}
	}
}

func TestP15MelodyBack(t *testing.T) {
	for _, m := range someMelodies() {
		back, ok := impl.MelodyBack(m)
		if !ok || !slices.Equal(back, backOf(m)) {
			t.Errorf("MelodyBack(%s) = %v, %v", textOf(m), back, ok)
			continue
		}
		if again, ok := impl.MelodyBack(back); !ok || !slices.Equal(again, m) {
			t.Errorf("MelodyBack twice of %s = %v, %v", textOf(m), again, ok)
		}
		if got, want := impl.MelodySteps(back), opposite(backOf(impl.MelodySteps(m))); !slices.Equal(got, want) {
			t.Errorf("MelodySteps of %s backwards = %v; want %v", textOf(m), got, want)
		}
		if got, want := impl.MelodySemis(back), opposite(backOf(impl.MelodySemis(m))); !slices.Equal(got, want) {
			t.Errorf("MelodySemis of %s backwards = %v; want %v", textOf(m), got, want)
		}
	}
	for _, m := range noMelodies(t) {
		if back, ok := impl.MelodyBack(m); ok || len(back) != 0 {
			t.Errorf("MelodyBack(%v) = %v, %v", m, back, ok)
		}
	}
}

func checkJoin(t *testing.T, a, b []impl.Tone) {
	joined, ok := impl.MelodyJoin(a, b)
	if ok != (len(a)+len(b) <= 24) || !ok && len(joined) != 0 {
		t.Errorf("MelodyJoin of %d tones and %d tones = %v, %v", len(a), len(b), joined, ok)
	}
	if !ok {
		return
	}
	if !slices.Equal(joined, slices.Concat(a, b)) {
		t.Errorf("MelodyJoin(%s, %s) = %v", textOf(a), textOf(b), joined)
	}
	want := strings.TrimSpace(impl.MelodyText(a) + " " + impl.MelodyText(b))
	if got := impl.MelodyText(joined); got != want {
		t.Errorf("MelodyText of the joined melodies is %q; want %q", got, want)
	}
	if got, want := impl.SingMany(joined), impl.SingMany(a)*impl.SingMany(b); got != want {
		t.Errorf("SingMany(%s) = %d; want %d", textOf(joined), got, want)
	}
	listA, okA := impl.SingBest(a)
	listB, okB := impl.SingBest(b)
	list, fine := impl.SingBest(joined)
	if fine != (okA && okB) {
		t.Errorf("SingBest(%s) = %v, %v; of both parts it is %v and %v", textOf(joined), list, fine, okA, okB)
	}
	both := impl.SingMutations(a, listA) + impl.SingMutations(b, listB)
	if n := impl.SingMutations(joined, list); fine && (n < both || n > both+1) {
		t.Errorf("SingBest(%s) has %d mutations, that of both parts together %d", textOf(joined), n, both)
	}
}

func TestP16MelodyJoin(t *testing.T) {
	melodies := append(longMelodies(), shortMelodies()[:120]...)
	for i, a := range melodies {
		for _, b := range [][]impl.Tone{melodies[(i*7+3)%len(melodies)], melodies[(i+1)%len(melodies)], a, {}} {
			checkJoin(t, a, b)
			checkJoin(t, b, a)
		}
	}
	for n := range 25 {
		checkJoin(t, repeated(t, "b1", n), repeated(t, "C1", 24-n))
		checkJoin(t, repeated(t, "b1", 24), repeated(t, "C1", n))
		if n > 0 {
			checkJoin(t, repeated(t, "b1", n), repeated(t, "C1", 25-n))
		}
	}
	checkJoin(t, repeated(t, "D0", 24), repeated(t, "D0", 1))
	checkJoin(t, repeated(t, "D0", 24), repeated(t, "D0", 24))
	checkJoin(t, nil, nil)
}

func TestP16MelodyJoinOfNoMelody(t *testing.T) {
	for _, bad := range noMelodies(t) {
		for _, m := range [][]impl.Tone{{}, tonesOf(t, "D0"), repeated(t, "D0", 24), bad} {
			if got, ok := impl.MelodyJoin(bad, m); ok || len(got) != 0 {
				t.Errorf("MelodyJoin(%v, %v) = %v, %v", bad, m, got, ok)
			}
			if got, ok := impl.MelodyJoin(m, bad); ok || len(got) != 0 {
				t.Errorf("MelodyJoin(%v, %v) = %v, %v", m, bad, got, ok)
			}
		}
	}
}

func TestP17MelodyText(t *testing.T) {
	for _, m := range someMelodies() {
		s := impl.MelodyText(m)
		if s != textOf(m) {
			t.Errorf("MelodyText(%v) = %q; want %q", m, s, textOf(m))
		}
		if got, ok := impl.MelodyFrom(s); !ok || !slices.Equal(got, m) {
			t.Errorf("MelodyFrom(%q) = %v, %v", s, got, ok)
		}
		if len(strings.Fields(s)) != len(m) {
			t.Errorf("MelodyText of %d tones = %q", len(m), s)
		}
		back, _ := impl.MelodyBack(m)
		if got := impl.MelodyText(back); len(got) != len(s) {
			t.Errorf("MelodyText backwards of %q = %q", s, got)
		}
	}
	for _, m := range noMelodies(t) {
		if s := impl.MelodyText(m); s != "" {
			t.Errorf("MelodyText(%v) = %q", m, s)
		}
	}
}

// checkMelodyFrom compares MelodyFrom with a search of each word in toneTexts.
func checkMelodyFrom(t *testing.T, s string) {
	t.Helper()
	want, is := []impl.Tone{}, true
	for _, word := range strings.Split(s, " ") {
		i := slices.Index(strings.Fields(toneTexts), word)
		if s == "" {
			break
		}
		if is = i >= 0 && len(want) < 24; !is {
			want = nil
			break
		}
		want = append(want, allTones()[i])
	}
	got, ok := impl.MelodyFrom(s)
	if ok != is || !slices.Equal(got, want) {
		t.Errorf("MelodyFrom(%q) = %v, %v; want %v, %v", s, got, ok, want, is)
	}
	if ok && (!impl.MelodyValid(got) || impl.MelodyText(got) != s) {
		t.Errorf("MelodyFrom(%q) = %v with the text %q", s, got, impl.MelodyText(got))
	}
	if _, bad := impl.MelodyFrom(s + " "); bad {
		t.Errorf("MelodyFrom(%q) succeeds", s+" ")
	}
}

func TestP18MelodyFrom(t *testing.T) {
	for _, m := range someMelodies() {
		s := textOf(m)
		checkMelodyFrom(t, s)
		for _, bad := range []string{" " + s, s + " ", s + "  ", s + "\n", s + "\x00", s + " H0", s + " b", s + " G3", s + "0", s + " G10", "G0" + s, strings.ReplaceAll(s, " ", "  "), strings.ReplaceAll(s, " ", ""), strings.ReplaceAll(s, " ", "\t"), strings.ToLower(s), s + " " + s, s + " D0"} {
			checkMelodyFrom(t, bad)
		}
	}
}

func TestP18MelodyFromEachByte(t *testing.T) {
	for _, s := range []string{"", "D0", "b1", "D0 b1 F2"} {
		for c := range 256 {
			x := string([]byte{byte(c)})
			for i := range s {
				checkMelodyFrom(t, s[:i]+x+s[i+1:])
				checkMelodyFrom(t, s[:i]+x+s[i:])
				checkMelodyFrom(t, s[:i]+s[i+1:])
			}
			checkMelodyFrom(t, s+x)
		}
	}
}

func TestP18MelodyFromLongTexts(t *testing.T) {
	for _, n := range []int{1, 2, 23, 24, 25, 26, 48, 1000, 100000} {
		s := strings.TrimSpace(strings.Repeat("b2 ", n))
		checkMelodyFrom(t, s)
		if got, ok := impl.MelodyFrom(s); ok != (n <= 24) || ok && len(got) != n {
			t.Errorf("MelodyFrom of %d words = %v, %v", n, got, ok)
		}
	}
	for _, bad := range []string{" ", "  ", strings.Repeat(" ", 24), "D", "D0 D", "D0 é", "\xff\xfe", "D0,F0", "D0 F0 ", "D0  F0", " D0 F0", "-1", "B0 b", "d0"} {
		checkMelodyFrom(t, bad)
	}
}

func checkSame(t *testing.T, a, b []impl.Tone) {
	want := len(a) == len(b) && slices.Equal(stepsOf(a), stepsOf(b)) && slices.Equal(semisOf(a), semisOf(b))
	if got := impl.MelodySame(a, b); got != want {
		t.Errorf("MelodySame(%s, %s) = %v", textOf(a), textOf(b), got)
	}
	if !want {
		return
	}
	if !impl.MelodySame(b, a) || !impl.MelodySame(backOf(a), backOf(b)) {
		t.Errorf("MelodySame(%s, %s) holds, but not for both exchanged or backwards", textOf(a), textOf(b))
	}
	if len(a) == 0 {
		return
	}
	if got, ok := impl.MelodyMove(a, b[0].Step-a[0].Step); !ok || !impl.MelodySame(got, b) || got[0].Step != b[0].Step {
		t.Errorf("MelodyMove(%s, %d) = %v, %v", textOf(a), b[0].Step-a[0].Step, got, ok)
	}
}

func TestP19MelodySame(t *testing.T) {
	short, long := shortMelodies(), longMelodies()
	for i, a := range short {
		checkSame(t, a, long[i%len(long)])
		for _, b := range short {
			checkSame(t, a, b)
		}
	}
	for i, a := range long {
		checkSame(t, a, a)
		checkSame(t, a, a[1:])
		checkSame(t, a, long[(i+1)%len(long)])
		for k := -20; k <= 20; k++ {
			if moved, ok := movedOf(a, k); ok {
				checkSame(t, a, moved)
				moved[i%len(moved)].Step = 20 - moved[i%len(moved)].Step
				moved[i%len(moved)].Soft = false
				checkSame(t, a, moved)
			}
		}
	}
}

func TestP19MelodySameEdges(t *testing.T) {
	for _, c := range []struct {
		a, b string
		want bool
	}{
		{"", "", true}, {"G0", "F2", true}, {"G0", "", false}, {"", "b0", false}, {"b0", "B2", true}, {"G0 G0", "G0", false},
		{"D0 F0 G1 A1 b1 A1", "A1 C1 D1 E1 F1 E1", true}, {"D0 F0 G1 A1 b1 A1", "D0 F0 G1 A1 B1 A1", false},
		{"b0 B0", "G0 G0", false}, {"b0 B0", "B0 B0", false}, {"b0 B0", "b1 B1", true}, {"b0 B0", "B0 C0", false}, // one semitone each, but other steps
		{"F0 B1", "B0 F0", false}, {"F0 B1", "b0 E0", true}, {"b0 b1", "B0 B1", true},
	} {
		if got := impl.MelodySame(tonesOf(t, c.a), tonesOf(t, c.b)); got != c.want {
			t.Errorf("MelodySame(%s, %s) = %v", c.a, c.b, got)
		}
	}
}

func TestP19MelodySameOfNoMelody(t *testing.T) {
	for _, bad := range noMelodies(t) {
		for _, m := range [][]impl.Tone{nil, {}, tonesOf(t, "D0"), repeated(t, "D0", len(bad)%25), bad} {
			if impl.MelodySame(bad, m) || impl.MelodySame(m, bad) {
				t.Errorf("MelodySame holds for %v and %v", bad, m)
			}
		}
	}
}

func TestMelodyResultsAreNewMemory(t *testing.T) {
	for _, m := range [][]impl.Tone{{}, tonesOf(t, "D0"), tonesOf(t, "A1 b1 A1"), repeated(t, "b1", 24)} {
		for _, k := range []int{0, 7} {
			a := spare(m)
			moved, _ := impl.MelodyMove(a, k)
			checkApart(t, "MelodyMove", moved, a, noTone)
		}
		a := spare(m)
		back, _ := impl.MelodyBack(a)
		checkApart(t, "MelodyBack", back, a, noTone)
		for _, n := range [][]impl.Tone{{}, tonesOf(t, "D0"), tonesOf(t, "A1 b1 A1")} {
			b := spare(n)
			joined, _ := impl.MelodyJoin(a, b)
			checkApart(t, "MelodyJoin", joined, a, noTone)
			joined, _ = impl.MelodyJoin(a, b)
			checkApart(t, "MelodyJoin", joined, b, noTone)
			joined, _ = impl.MelodyJoin(a, a)
			checkApart(t, "MelodyJoin", joined, a, noTone)
		}
	}
}

func TestMelodyArgumentsStay(t *testing.T) {
	for _, m := range append(longMelodies(), noMelodies(t)...) {
		a, b := spare(m), spare(m)
		impl.MelodyMove(a, 0)
		impl.MelodyMove(a, 7)
		impl.MelodyBack(a)
		impl.MelodyJoin(a, b[:len(b)/2])
		impl.MelodyJoin(a[:len(a)/2], b)
		impl.MelodySteps(a)
		impl.MelodySemis(a)
		impl.MelodyText(a)
		impl.MelodySame(a, b)
		impl.SingBest(a)
		if !slices.Equal(a, m) || !slices.Equal(b, m) || a[:cap(a)][len(a)] != (impl.Tone{}) || b[:cap(b)][len(b)] != (impl.Tone{}) {
			t.Errorf("an argument %v has become %v or %v", m, a, b)
		}
	}
}
