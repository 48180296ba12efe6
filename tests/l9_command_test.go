package tests

import (
	"math/rand/v2"
	"slices"
	"strconv"
	"strings"
	"testing"

	"loop.example/neumes/impl"
)

func TestP93EmptyScript(t *testing.T) {
	checkOutput(t, "", "tones 0 entries 0\n")
	for _, tail := range []string{" ", "show", "melody D0", "add D0", "zzz", "\x00", "\r", "é", "\xff", strings.Repeat("x", 400), "melody D0\r", "enter ave"} {
		checkOutput(t, tail, "tones 0 entries 0\n")
	}
	checkOutput(t, "\n", "what\ntones 0 entries 0\n")
	checkOutput(t, "\n\n", "what\nwhat\ntones 0 entries 0\n")
	checkOutput(t, "\n \n  \n", "what\nwhat\nwhat\ntones 0 entries 0\n")
}

func TestP93LastLineWithoutNewline(t *testing.T) {
	for _, script := range drawnScripts(400, 360) {
		for _, tail := range []string{"add D0", "melody", "zzz", " ", "enter ave", "move 7", "\x00", "show\r", strings.Repeat("x", 400-len(script))} {
			checkOutput(t, script+tail, impl.Execute(script))
		}
	}
	checkOutput(t, "melody D0\nadd E0", "ok\ntones 1 entries 0\n")
	checkOutput(t, "melody D0\nadd E0\n", "ok\nok\ntones 2 entries 0\n")
	checkOutput(t, "melody D0\nenter ave\n\nenter deus", "ok\nok\nwhat\ntones 1 entries 1\n")
}

// TestP93TooLong has scripts of MaxScript bytes and of more, whatever their lines are.
func TestP93TooLong(t *testing.T) {
	if impl.MaxScript != 400 {
		t.Errorf("MaxScript is %d", impl.MaxScript)
	}
	for _, c := range []struct{ part, answer string }{
		{"\n", "what\n"}, {"zzz\n", "what\n"}, {"mode\n", "no\n"}, {"add D0 \n", "what\n"}, {"show\n", "melody\n"}, {"steps \n ", ""}, {"x", ""}, {"é", ""}, {"\xff\x80", ""}, {"\x00", ""},
	} {
		many := 400 / len(c.part)
		full := strings.Repeat(c.part, many) + strings.Repeat("x", 400-many*len(c.part))
		if c.answer != "" {
			checkOutput(t, full, strings.Repeat(c.answer, many)+"tones 0 entries 0\n")
		}
		checkOutput(t, full, outputOf(t, full))
		checkOutput(t, full[1:], outputOf(t, full[1:]))
		for _, more := range []string{"x", "\n", " ", c.part, full, strings.Repeat(full, 200)} {
			checkOutput(t, full+more, "too long\n")
			checkOutput(t, more+full, "too long\n")
		}
	}
	checkOutput(t, strings.Repeat("€", 133)+"\n", "what\ntones 0 entries 0\n")
	checkOutput(t, strings.Repeat("€", 134)+"\n", "too long\n")
}

// TestP93Scripts compares scripts with a reference, and runs each again behind others, as nothing is kept.
func TestP93Scripts(t *testing.T) {
	scripts := append(drawnScripts(4000, 400), drawnScripts(1500, 120)...)
	answers := map[string]int{}
	for _, script := range scripts {
		want := outputOf(t, script)
		checkOutput(t, script, want)
		if !strings.HasSuffix(want, "\n") || want == "\n" {
			t.Errorf("the output %q of %q does not end with a line", want, script)
		}
		for _, line := range strings.Split(want, "\n") {
			answers[strings.Split(line, " ")[0]]++
		}
	}
	for i := len(scripts) - 1; i >= 0; i -= 7 {
		checkOutput(t, scripts[i], outputOf(t, scripts[i]))
	}
	for _, word := range strings.Fields("ok no what melody steps ut sol la punctum pes torculus group-dud modes 1 2 3 4 5 6 7 8 found ordo tones") {
		if answers[word] < 10 {
			t.Errorf("just %d lines print %q: %v", answers[word], word, answers)
		}
	}
}

// TestP93EachByte puts each byte into each place of some lines, newlines and spaces among them.
func TestP93EachByte(t *testing.T) {
	for _, line := range []string{"melody D0 b1", "melody", "add F0", "move 12", "move -7", "show", "steps", "sing", "neume", "modes", "mode", "enter ab", "find", "ordo 3 11", ""} {
		for b := range 256 {
			other := string([]byte{byte(b)})
			for at := range len(line) + 1 {
				changed := []string{line[:at] + other + line[at:]}
				if at < len(line) {
					changed = append(changed, line[:at]+other+line[at+1:])
				}
				for _, x := range changed {
					script := "melody E0 D0\nenter ave\n" + x + "\nshow\nfind\n"
					checkOutput(t, script, outputOf(t, script))
				}
			}
		}
	}
}

func TestP94LinesBehind(t *testing.T) {
	for _, script := range drawnScripts(1000, 384) {
		checkAhead(t, script, "zzz\nmelody X\n", "what\nno\n")
	}
	checkAhead(t, "", "zzz\nmelody X\n", "what\nno\n")
	checkAhead(t, strings.Repeat("\n", 384), "zzz\nmelody X\n", "what\nno\n")
}

// malformedLines are other words, and known words with fewer or more words than asked, empty ones too.
var malformedLines = []string{
	"", " ", "  ", "zzz", "melod", "melodyy", "melodyD0", "sho", "shows", "showshow", "step", "stepss", "modess", "mod", "ok", "no", "what", "tones", "entries", "too long", "tones 0 entries 0", "found", "rest", "999", "-1", "D0",
	"Melody D0", "MELODY", "Show", "SHOW", "shoW", "Add D0", "Move 1", "Ordo 1 3", "Enter ave", "Find",
	" melody D0", "  melody", " add D0", " show", "  show", " move 1", " enter ave", " ordo 1 3",
	"show ", "show  ", "show x", "show show", "steps ", "steps 1", "sing ", "sing ut", "neume ", "neume pes", "modes ", "modes 1", "mode ", "mode 1", "find ", "find ave", "find  ",
	"add", "add  ", "add D0 ", "add  D0", "add D0 F0", "add D0  F0", "add X Y",
	"move", "move  ", "move 1 ", "move  1", "move 1 1", "move - 1", "move x y",
	"enter", "enter  ", "enter ave ", "enter  ave", "enter ave ave", "enter a b",
	"ordo", "ordo ", "ordo 1", "ordo 13", "ordo   ", "ordo 1 3 ", "ordo  1 3", "ordo 1  3", "ordo 1 3 2", "ordo 9 9 9",
	"\t", "\x00", "\r", "\r\r", "\v", "\f", "\x7f", "é", "mélody", "\xff", "\xff\xfe", "\u00a0", "\u2028", "show\r", "show\t", "\tshow", "show\x00", "melody\tD0", "melody\r", "melody\u00a0D0", "add\tD0", "mode\v", "steps\f", "find\x1b",
}

func TestP94MalformedLines(t *testing.T) {
	for _, line := range malformedLines {
		checkDialog(t, "tones 2 entries 1", "melody F0 D0", "ok", "enter ave", "ok", line, "what", "show", "melody F0 D0", "find", "found ave")
		checkDialog(t, "tones 0 entries 0", line, "what")
		checkDialog(t, "tones 0 entries 0", "show", "melody", line, "what", line, "what", "find", "found")
	}
}

// failingLines fail behind the melody F0 D0 and its entry ave.
var failingLines = []string{
	"melody  ", "melody   ", "melody X", "melody D", "melody 0", "melody D0 ", "melody  D0", "melody D0  F0", "melody D0 X", "melody X D0", "melody d0", "melody D0 f0", "melody D3", "melody G3", "melody b3", "melody H0", "melody D00", "melody D-1", "melody D0F0", "melody D0,F0",
	"melody D0\tF0", "melody D0\r", "melody \t", "melody \x00", "melody D0\x00", "melody é", "melody \xff", "melody ok", "melody melody",
	"melody" + strings.Repeat(" D0", 25), "melody" + strings.Repeat(" b1", 26), "melody" + strings.Repeat(" X", 24), "melody" + strings.Repeat(" ", 24),
	"add ", "add X", "add D", "add 0", "add d0", "add B", "add b", "add bb", "add b3", "add G3", "add D9", "add D00", "add D-1", "add D0\r", "add \tD0", "add D0\x00", "add é", "add é0", "add \xff", "add DO",
	"move ", "move -", "move --1", "move --", "move -+1", "move +1", "move +", "move 1-", "move 001", "move 007", "move 000", "move -001", "move -000", "move 100", "move -100", "move 999", "move -999", "move 0999", "move 9223372036854775808", "move 18446744073709551617", "move x", "move -x", "move 1x", "move x1", "move -1x", "move 1.", "move 0x", "move 0x1", "move 1e", "move 1_", "move 7\r", "move \t7", "move 7\x00", "move ٣", "move １", "move é", "move \xff", "move −1",
	"move 21", "move -21", "move 99", "move -99", "move 20", "move -20", "move 15", "move -5", "move -05", "move -1", "move -01", "move 2", "move 02",
	"enter ave", "enter ", "enter Ave", "enter AVE", "enter aveX", "enter av1", "enter 1", "enter -", "enter a-b", "enter abcdefghijk", "enter ave\r", "enter \tave", "enter a\x00", "enter é", "enter \xff", "enter " + strings.Repeat("z", 200),
	"ordo  ", "ordo 1 ", "ordo  1", "ordo 0 3", "ordo 00 3", "ordo -0 3", "ordo 7 3", "ordo 07 3", "ordo 8 3", "ordo 99 3", "ordo -1 3", "ordo -6 3", "ordo -01 3", "ordo 1 0", "ordo 1 00", "ordo 1 -0", "ordo 1 13", "ordo 1 99", "ordo 1 -1", "ordo 1 -12", "ordo 1 -03", "ordo -1 -3", "ordo 999 3", "ordo 1 999",
	"ordo 001 3", "ordo 1 003", "ordo 1 012", "ordo +1 3", "ordo 1 +3", "ordo --1 3", "ordo 1 --3", "ordo - 3", "ordo 1 -", "ordo x 3", "ordo 1 x", "ordo 1x 3", "ordo 1 3x", "ordo 1 3\r", "ordo 1\t 3", "ordo 1 é", "ordo \xff 3",
}

func TestP94FailingLines(t *testing.T) {
	for _, line := range failingLines {
		checkDialog(t, "tones 2 entries 1", "melody F0 D0", "ok", "enter ave", "ok", line, "no", "show", "melody F0 D0", "find", "found ave")
	}
	for _, line := range []string{"sing", "mode", "enter ave", "melody X", "add X", "add ", "ordo 7 3"} {
		checkDialog(t, "tones 0 entries 0", line, "no", line, "no")
	}
}

func TestP95ModesTwice(t *testing.T) {
	counts := map[string]int{}
	for _, script := range drawnScripts(1000, 388) {
		answer := lastAnswer(t, script+"modes\nmodes\n")
		checkAhead(t, script, "modes\nmodes\n", answer+"\n"+answer+"\n")
		counts[answer]++
	}
	if counts["modes"] < 100 || len(counts) < 8 {
		t.Errorf("the scripts end with too few modes: %v", counts)
	}
}

// TestP95ModesOfMelodies has the empty melody, and melodies in no mode, in one and in both modes of each final.
func TestP95ModesOfMelodies(t *testing.T) {
	checkDialog(t, "tones 0 entries 0", "modes", "modes", "modes", "modes", "mode", "no")
	many := map[int]int{}
	for _, m := range modeTestMelodies() {
		if len(m) == 0 {
			continue
		}
		modes := listed("modes", modesOf(m))
		many[len(modesOf(m))]++
		checkDialog(t, "tones "+strconv.Itoa(len(m))+" entries 0", "melody "+textOf(m), "ok", "modes", modes, "modes", modes)
	}
	if many[0] < 100 || many[1] < 100 || many[2] < 100 {
		t.Errorf("the melodies are in too few modes: %v", many)
	}
	checkDialog(t, "tones 1 entries 0", "melody A1", "ok", "modes", "modes", "mode", "no", "melody b1", "ok", "modes", "modes", "mode", "no")
	checkDialog(t, "tones 3 entries 0", "melody D0", "ok", "modes", "modes 1 2", "add F1", "ok", "modes", "modes", "add D0", "ok", "modes", "modes", "mode", "no")
	checkDialog(t, "tones 2 entries 0", "melody E1 D0", "ok", "modes", "modes 1", "melody G0 D0", "ok", "modes", "modes 2", "melody F1 E0", "ok", "modes", "modes 3", "melody A0 E0", "ok", "modes", "modes 4",
		"melody G2 F0", "ok", "modes", "modes 5", "melody B0 F0", "ok", "modes", "modes 6", "melody A2 G1", "ok", "modes", "modes 7", "melody C0 G1", "ok", "modes", "modes 8")
}

func TestP96Melodies(t *testing.T) {
	sung, not := 0, 0
	for _, m := range append(someMelodies(), modalMelodies()...) {
		if len(m) == 0 {
			continue
		}
		answer := "no"
		if song, ok := bestSongOf(m); ok {
			answer = namesOf(m, song)
			best, _ := impl.SingBest(m)
			if answer != impl.SingText(m, best) {
				t.Errorf("SingText of SingBest of %s is %q; want %q", textOf(m), impl.SingText(m, best), answer)
			}
			sung++
		} else {
			not++
		}
		checkDialog(t, "tones "+strconv.Itoa(len(m))+" entries 0", "melody "+textOf(m), "ok", "show", "melody "+impl.MelodyText(m), "steps", listed("steps", impl.MelodySteps(m)), "sing", answer)
	}
	if sung < 800 || not < 100 {
		t.Errorf("just %d melodies can be sung, and %d cannot", sung, not)
	}
}

func TestP96MelodyEdges(t *testing.T) {
	checkDialog(t, "tones 0 entries 0", "show", "melody", "steps", "steps", "sing", "no", "neume", "punctum", "melody", "ok", "show", "melody", "melody ", "ok", "show", "melody", "sing", "no")
	checkDialog(t, "tones 0 entries 0", "melody D0", "ok", "melody", "ok", "show", "melody", "melody D0", "ok", "melody ", "ok", "show", "melody", "steps", "steps")
	checkDialog(t, "tones 1 entries 0", "melody D0", "ok", "show", "melody D0", "steps", "steps", "sing", "sol", "neume", "punctum")
	checkDialog(t, "tones 6 entries 0", "melody D0 F0 G1 A1 b1 A1", "ok", "show", "melody D0 F0 G1 A1 b1 A1", "steps", "steps 2 1 1 1 -1", "sing", "sol ut re mi fa mi")
	checkDialog(t, "tones 3 entries 0", "melody F2 G0 F2", "ok", "steps", "steps -20 20", "sing", "no", "melody b1 B1 b1", "ok", "steps", "steps 0 0", "sing", "fa mi fa", "show", "melody b1 B1 b1")
	for _, text := range []string{"b0", "F2", "b0 b0", "D0 b0", "F2 D0", "D0 F2 D0"} {
		m := tonesOf(t, text)
		checkDialog(t, "tones "+strconv.Itoa(len(m))+" entries 0", "melody "+text, "ok", "sing", "no", "show", "melody "+text)
	}
	full := textOf(repeated(t, "b2", 24))
	checkDialog(t, "tones 24 entries 0", "melody "+full, "ok", "show", "melody "+full, "melody "+full+" b2", "no", "show", "melody "+full, "add b2", "no")
	checkDialog(t, "tones 1 entries 0", "melody "+full+" b2", "no", "show", "melody", "melody D0", "ok", "melody "+full+" b2", "no", "show", "melody D0")
}

func TestP96Add(t *testing.T) {
	for i, text := range strings.Fields(toneTexts) {
		checkDialog(t, "tones 1 entries 0", "add "+text, "ok", "show", "melody "+text)
		checkDialog(t, "tones 3 entries 0", "melody D0 b1", "ok", "add "+text, "ok", "show", "melody D0 b1 "+text, "steps", "steps 5 "+strconv.Itoa(allTones()[i].Step-9))
	}
	for n := range 25 {
		m := slices.Repeat(tonesOf(t, "A1"), n)
		answer, more := "ok", append(slices.Clone(m), toneOf(t, "b1"))
		if n == 24 {
			answer, more = "no", m
		}
		checkDialog(t, "tones "+strconv.Itoa(len(more))+" entries 0", strings.TrimSpace("melody "+textOf(m)), "ok", "add b1", answer, "show", "melody "+textOf(more))
	}
	checkOutput(t, strings.Repeat("add D0\n", 26)+"show\n", strings.Repeat("ok\n", 24)+"no\nno\nmelody"+strings.Repeat(" D0", 24)+"\ntones 24 entries 0\n")
}

func TestP96Neume(t *testing.T) {
	for _, s := range contoursUpTo(5) {
		m := []impl.Tone{}
		for _, step := range leastOf(s) {
			m = append(m, impl.Tone{Step: step + 3})
		}
		answer := "no"
		if len(s) <= 3 {
			answer = neumeOf(s)
		}
		checkDialog(t, "tones "+strconv.Itoa(len(m))+" entries 0", "melody "+textOf(m), "ok", "neume", answer)
	}
	checkDialog(t, "tones 24 entries 0", "neume", "punctum", "melody b1 B1", "ok", "neume", "group-s", "melody D0 F0 E0", "ok", "neume", "torculus", "add E0", "ok", "neume", "group-uds", "add F0", "ok", "neume", "no",
		"melody"+strings.Repeat(" D0", 24), "ok", "neume", "no")
}

func TestP97Modes(t *testing.T) {
	long, short := 0, 0
	for _, m := range modeTestMelodies() {
		mode, ok := likelyOf(m)
		if !ok {
			if len(m) > 0 {
				checkDialog(t, "tones "+strconv.Itoa(len(m))+" entries 0", "melody "+textOf(m), "ok", "mode", "no", "enter ave", "no", "find", "found", "enter ave", "no")
			}
			continue
		}
		found := "found ave"
		if len(m) > 8 {
			found = "found"
			long++
		} else {
			short++
		}
		checkDialog(t, "tones "+strconv.Itoa(len(m))+" entries 1", "melody "+textOf(m), "ok", "mode", strconv.Itoa(mode), "enter ave", "ok", "find", found, "enter ave", "no")
	}
	if long < 300 || short < 100 {
		t.Errorf("just %d long melodies and %d short ones are in a mode", long, short)
	}
}

func TestP97Enter(t *testing.T) {
	checkDialog(t, "tones 8 entries 1", "melody D0 E0 F0 G1 A1 F0 E0 D0", "ok", "enter ave", "ok", "find", "found ave", "melody D0 E0 F0 G1 A1 F0 E0", "ok", "find", "found ave", "add C0", "ok", "find", "found")
	checkDialog(t, "tones 9 entries 1", "melody D0 E0 F0 G1 A1 b1 A1 G1 D0", "ok", "enter ave", "ok", "find", "found", "melody D0 E0 F0 G1 A1 b1 A1 G1", "ok", "find", "found ave", "add E0", "ok", "find", "found")
	// The last tone of a long melody decides its mode, though it is not entered.
	checkDialog(t, "tones 9 entries 2", "melody D0 D0 D0 D0 D0 D0 D0 D0 E0", "ok", "mode", "3", "enter ave", "ok", "enter ave", "no", "melody D0 D0 D0 D0 D0 D0 D0 D0", "ok", "find", "found ave", "enter deus", "ok", "find", "found deus ave", "melody D0 D0 D0 D0 D0 D0 D0 D0 D0", "ok", "find", "found", "enter deus", "no", "melody D0 D0 D0 D0 D0 D0 D0 D0 A1", "ok", "enter a", "no")
	// One name in several modes, with the same or other tones, and other names in one.
	checkDialog(t, "tones 1 entries 4", "melody E0", "ok", "enter ave", "ok", "melody D0", "ok", "enter deus", "ok", "enter ave", "ok", "enter ave", "no", "melody A1 D0", "ok", "mode", "1", "enter ave", "no", "melody F0 D0", "ok", "mode", "2", "enter ave", "ok", "enter ave", "no", "melody D0", "ok", "find", "found ave deus ave ave")
	for _, name := range entryNames {
		checkDialog(t, "tones 1 entries 1", "melody G1", "ok", "enter "+name, "ok", "find", "found "+name, "enter "+name, "no")
	}
	for _, name := range badNames() {
		if len(name) < 300 && !strings.ContainsAny(name, " \n") {
			checkDialog(t, "tones 1 entries 0", "melody G1", "ok", "enter "+name, "no", "find", "found")
		}
	}
	// What becomes of the melody does not change the entry.
	checkDialog(t, "tones 2 entries 1", "melody F0 D0", "ok", "enter ave", "ok", "add C0", "ok", "move 7", "ok", "find", "found", "melody F0 D0", "ok", "find", "found ave")
}

// TestP97ManyEntries has as many entries as a tonary can have, and one more.
func TestP97ManyEntries(t *testing.T) {
	script, names := "melody D0\n", []string{}
	for i := range 20 {
		name := string(rune('t' - i))
		script += "enter " + name + "\n"
		names = append([]string{name}, names...)
	}
	want := strings.Repeat("ok\n", 21)
	found := "found " + strings.Join(names, " ") + "\n"
	checkOutput(t, script+"find\n", want+found+"tones 1 entries 20\n")
	checkOutput(t, script+"enter u\nenter a\nfind\n", want+"no\nno\n"+found+"tones 1 entries 20\n")
	checkOutput(t, script+"melody E0\nenter a\nfind\n", want+"ok\nno\n"+found+"tones 1 entries 20\n")
	checkOutput(t, script+"melody\nfind\n", want+"ok\n"+found+"tones 0 entries 20\n")
}

func TestP97Find(t *testing.T) {
	checkDialog(t, "tones 0 entries 0", "find", "found", "melody D0", "ok", "find", "found", "melody", "ok", "find", "found")
	// The empty melody finds all entries, and moved ones find the same.
	checkDialog(t, "tones 2 entries 3", "melody F0 E0 D0", "ok", "enter c", "ok", "melody F0 E0 G1", "ok", "enter b", "ok", "melody b1 A1 F0", "ok", "enter a", "ok",
		"melody", "ok", "find", "found c a b", "melody D0", "ok", "find", "found c a b", "melody F0 E0", "ok", "find", "found c a b", "melody F0 E0 G1", "ok", "find", "found b", "melody C0 B0", "ok", "find", "found c a b", "melody B1 A1", "ok", "find", "found", "move 7", "ok", "find", "found")
	for i, list := range someTonaries() {
		if i%40 == 0 {
			checkFinds(t, list)
		}
	}
}

// checkFinds enters what it can of the Starts of a tonary, and looks for their beginnings.
func checkFinds(t *testing.T, list []impl.Entry) {
	t.Helper()
	for _, e := range list[:min(6, len(list))] {
		script := ""
		for _, other := range list[:min(6, len(list))] {
			script += "melody " + textOf(append(slices.Clone(other.Start[:min(2, len(other.Start))]), toneOf(t, "E0"))) + "\nenter " + other.Name + "\n"
		}
		for n := range min(4, len(e.Start)+1) {
			lines := script + strings.TrimSpace("melody "+textOf(e.Start[:n])) + "\nfind\n"
			checkOutput(t, lines, outputOf(t, lines))
		}
	}
}

// textsOfNumber are all words for a number.
func textsOfNumber(n int) []string {
	digits := strconv.Itoa(max(n, -n))
	texts := []string{digits}
	if len(digits) == 1 {
		texts = append(texts, "0"+digits)
	}
	signed := []string{}
	for _, s := range texts {
		signed = append(signed, "-"+s)
	}
	switch {
	case n < 0:
		return signed
	case n > 0:
		return texts
	}
	return append(texts, signed...)
}

func TestP98Move(t *testing.T) {
	moves, down := 0, 0
	for i, m := range someMelodies() {
		if len(m) == 0 || len(m) == 2 && i%5 > 0 {
			continue
		}
		for k := -21; k <= 21; k++ {
			answer, after := "no", m
			if moved, ok := movedOf(m, k); ok {
				answer, after = "ok", moved
				moves++
				if k < 0 {
					down++
				}
			}
			if moved, ok := impl.MelodyMove(m, k); ok != (answer == "ok") || ok && !slices.Equal(moved, after) {
				t.Errorf("MelodyMove(%s, %d) = %v, %v", textOf(m), k, moved, ok)
			}
			words := textsOfNumber(k)
			checkDialog(t, "tones "+strconv.Itoa(len(m))+" entries 0", "melody "+textOf(m), "ok", "move "+words[i%len(words)], answer, "show", "melody "+textOf(after))
		}
	}
	if moves < 3000 || down < 1000 {
		t.Errorf("just %d moves succeed, %d of them down", moves, down)
	}
}

// TestP98Numbers moves by all numbers that there are, as all words for them.
func TestP98Numbers(t *testing.T) {
	words := 0
	for k := -99; k <= 99; k++ {
		for _, word := range textsOfNumber(k) {
			words++
			for _, text := range []string{"b0", "b1", "G0", "F2", "A1 b1 A1", "F0 G1"} {
				m := tonesOf(t, text)
				answer, after := "no", m
				if moved, ok := movedOf(m, k); ok {
					answer, after = "ok", moved
				}
				checkDialog(t, "tones "+strconv.Itoa(len(m))+" entries 0", "melody "+text, "ok", "move "+word, answer, "show", "melody "+textOf(after))
			}
		}
	}
	if words != 2*(10+100) {
		t.Errorf("there are %d words for numbers", words)
	}
}

func TestP98MoveEdges(t *testing.T) {
	checkDialog(t, "tones 4 entries 0", "melody D0 F0 E0 D0", "ok", "move 3", "ok", "show", "melody G1 b1 A1 G1", "move -3", "ok", "show", "melody D0 F0 E0 D0", "move 7", "ok", "show", "melody D1 F1 E1 D1", "move -07", "ok", "show", "melody D0 F0 E0 D0",
		"move 4", "ok", "show", "melody A1 C1 B1 A1", "move 00", "ok", "move 0", "ok", "move -0", "ok", "move -00", "ok", "show", "melody A1 C1 B1 A1", "move 1", "no", "move -14", "no", "move -8", "ok", "show", "melody G0 b0 A0 G0", "move -1", "no", "move 14", "ok", "show", "melody G2 b2 A2 G2", "move 2", "no")
	checkDialog(t, "tones 1 entries 0", "melody b1", "ok", "move 0", "ok", "show", "melody B1", "move -7", "ok", "show", "melody B0", "melody b0", "ok", "move 07", "ok", "show", "melody B1", "move -7", "ok", "show", "melody B0")
	// The empty melody is moved by each number, and 999 is one.
	for _, word := range []string{"0", "1", "-1", "7", "-7", "99", "-99", "00", "-00", "-0", "999", "", "-", "--1", "+1", "001", "-001", "x", "1x", "é", "\xff", "\x00", "D0", "7\r"} {
		checkDialog(t, "tones 0 entries 0", "move "+word, "ok", "show", "melody", "melody D0", "ok", "melody", "ok", "move "+word, "ok")
	}
	r := rand.New(rand.NewPCG(9, 98))
	for range 500 {
		m := drawn(r, between(5, 12), 1+r.IntN(5))
		script := "melody " + textOf(m) + "\n"
		for range 1 + r.IntN(20) {
			script += "move " + strconv.Itoa(r.IntN(15)-7) + "\nshow\n"
		}
		checkOutput(t, script, outputOf(t, script))
	}
}

// TestP98EachByte has each byte in words for numbers, for a melody and an ordo that take many numbers, so that one that is read out of another byte shows.
func TestP98EachByte(t *testing.T) {
	for b := range 256 {
		other := string([]byte{byte(b)})
		for _, word := range []string{other, "0" + other, "1" + other, other + "0", other + "1", "-" + other, "-0" + other, "-1" + other, other + "-1", "00" + other, other + "00"} {
			for _, line := range []string{"move " + word, "ordo " + word + " 9", "ordo 6 " + word} {
				script := "melody A1\n" + line + "\nshow\n"
				checkOutput(t, script, outputOf(t, script))
			}
		}
	}
}

func TestP99Ordo(t *testing.T) {
	for mode := -99; mode <= 99; mode++ {
		for n := -99; n <= 99; n++ {
			if (mode < -9 || mode > 12) && n%11 > 0 {
				continue
			}
			beats, rest, ok := impl.RhythmOrdo(mode, n)
			answer := "no"
			if mode >= 1 && mode <= 6 && n >= 1 && n <= 12 {
				wantBeats, wantRest := ordoOf(mode, n)
				answer = listed("ordo", wantBeats) + " rest " + strconv.Itoa(wantRest)
				if !ok || !slices.Equal(beats, wantBeats) || rest != wantRest {
					t.Errorf("RhythmOrdo(%d, %d) = %v, %d, %v", mode, n, beats, rest, ok)
				}
			} else if ok {
				t.Errorf("RhythmOrdo(%d, %d) succeeds", mode, n)
			}
			for _, first := range textsOfNumber(mode) {
				for _, second := range textsOfNumber(n) {
					checkDialog(t, "tones 0 entries 0", "ordo "+first+" "+second, answer)
				}
			}
		}
	}
}

func TestP99OrdoEdges(t *testing.T) {
	for _, c := range []struct{ line, answer string }{
		{"ordo 1 1", "ordo 2 rest 1"}, {"ordo 1 2", "ordo 2 1 rest 0"}, {"ordo 1 3", "ordo 2 1 2 rest 1"}, {"ordo 1 12", "ordo 2 1 2 1 2 1 2 1 2 1 2 1 rest 0"},
		{"ordo 2 1", "ordo 1 rest 2"}, {"ordo 2 11", "ordo 1 2 1 2 1 2 1 2 1 2 1 rest 2"}, {"ordo 3 1", "ordo 3 rest 3"}, {"ordo 3 12", "ordo 3 1 2 3 1 2 3 1 2 3 1 2 rest 0"},
		{"ordo 4 1", "ordo 1 rest 5"}, {"ordo 4 2", "ordo 1 2 rest 3"}, {"ordo 5 1", "ordo 3 rest 3"}, {"ordo 5 12", "ordo 3 3 3 3 3 3 3 3 3 3 3 3 rest 0"},
		{"ordo 6 1", "ordo 1 rest 2"}, {"ordo 6 12", "ordo 1 1 1 1 1 1 1 1 1 1 1 1 rest 0"}, {"ordo 06 02", "ordo 1 1 rest 1"}, {"ordo 01 3", "ordo 2 1 2 rest 1"},
		{"ordo 7 1", "no"}, {"ordo 0 1", "no"}, {"ordo -1 1", "no"}, {"ordo 1 0", "no"}, {"ordo 1 13", "no"}, {"ordo 1 -1", "no"}, {"ordo 1", "what"}, {"ordo 1 ", "no"}, {"ordo 1  ", "what"},
	} {
		checkDialog(t, "tones 2 entries 1", "melody F0 D0", "ok", "enter ave", "ok", c.line, c.answer, "show", "melody F0 D0", "find", "found ave")
	}
}
