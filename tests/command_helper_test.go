package tests

import (
	"math/rand/v2"
	"regexp"
	"slices"
	"strconv"
	"strings"
	"testing"

	"loop.example/neumes/impl"
)

// scriptState is what a script works on, as all that follows made without the program's own functions.
type scriptState struct {
	t       *testing.T
	m       []impl.Tone
	entries []impl.Entry
}

// lineRule tells of the lines of one form what they print; the words are what stands in the brackets of the form.
type lineRule struct {
	form   *regexp.Regexp
	prints func(s *scriptState, words []string) string
}

func wholly(form string) *regexp.Regexp {
	return regexp.MustCompile(`(?s)\A(?:` + form + `)\z`)
}

var (
	melodyForm = wholly(`(?:[A-Gb][0-2](?: [A-Gb][0-2]){0,23})?`)
	toneForm   = wholly(`[A-Gb][0-2]`)
	numberForm = wholly(`-?[0-9][0-9]?`)
	nameForm   = wholly(`[a-z]{1,10}`)
)

var lineRules = []lineRule{
	{wholly(`melody(?: (.*))?`), (*scriptState).takes},
	{wholly(`add ([^ ]*)`), (*scriptState).adds},
	{wholly(`move ([^ ]*)`), (*scriptState).moves},
	{wholly(`show`), func(s *scriptState, _ []string) string { return strings.TrimSpace("melody " + textOf(s.m)) }},
	{wholly(`steps`), func(s *scriptState, _ []string) string { return listed("steps", stepsOf(s.m)) }},
	{wholly(`sing`), (*scriptState).sings},
	{wholly(`neume`), (*scriptState).draws},
	{wholly(`modes`), func(s *scriptState, _ []string) string { return listed("modes", modesOf(s.m)) }},
	{wholly(`mode`), (*scriptState).tells},
	{wholly(`enter ([^ ]*)`), (*scriptState).enters},
	{wholly(`find`), (*scriptState).finds},
	{wholly(`ordo ([^ ]*) ([^ ]*)`), (*scriptState).counts},
}

func listed(word string, numbers []int) string {
	return strings.TrimSpace(word + " " + textOfNumbers(numbers))
}

// numberOfWord is 999 for a word that is no number.
func numberOfWord(word string) int {
	if !numberForm.MatchString(word) {
		return 999
	}
	n, _ := strconv.Atoi(word)
	return n
}

func (s *scriptState) takes(words []string) string {
	if !melodyForm.MatchString(words[0]) {
		return "no"
	}
	s.m = tonesOf(s.t, words[0])
	return "ok"
}

func (s *scriptState) adds(words []string) string {
	if !toneForm.MatchString(words[0]) || len(s.m) == 24 {
		return "no"
	}
	s.m = slices.Concat(s.m, tonesOf(s.t, words[0]))
	return "ok"
}

func (s *scriptState) moves(words []string) string {
	moved, ok := movedOf(s.m, numberOfWord(words[0]))
	if !ok {
		return "no"
	}
	s.m = moved
	return "ok"
}

func (s *scriptState) sings([]string) string {
	song, ok := bestSongOf(s.m)
	if !ok || len(s.m) == 0 {
		return "no"
	}
	return namesOf(s.m, song)
}

func (s *scriptState) draws([]string) string {
	if len(s.m) > 4 {
		return "no"
	}
	return neumeOf(waysBetween(stepListOf(s.m)))
}

func (s *scriptState) tells([]string) string {
	mode, ok := likelyOf(s.m)
	if !ok {
		return "no"
	}
	return strconv.Itoa(mode)
}

func (s *scriptState) enters(words []string) string {
	mode, ok := likelyOf(s.m)
	if !ok || !nameForm.MatchString(words[0]) || len(s.entries) == 20 {
		return "no"
	}
	e := impl.Entry{Name: words[0], Mode: mode, Start: s.m[:min(8, len(s.m))]}
	if slices.ContainsFunc(s.entries, func(x impl.Entry) bool { return keyOf(x) == keyOf(e) }) {
		return "no"
	}
	s.entries = withEntry(s.entries, e)
	return "ok"
}

func (s *scriptState) finds([]string) string {
	text := "found"
	for _, i := range foundOf(s.entries, s.m) {
		text += " " + s.entries[i].Name
	}
	return text
}

func (s *scriptState) counts(words []string) string {
	mode, n := numberOfWord(words[0]), numberOfWord(words[1])
	if mode < 1 || mode > 6 || n < 1 || n > 12 {
		return "no"
	}
	beats, rest := ordoOf(mode, n)
	return listed("ordo", beats) + " rest " + strconv.Itoa(rest)
}

func (s *scriptState) answerOf(line string) string {
	for _, rule := range lineRules {
		if words := rule.form.FindStringSubmatch(line); words != nil {
			return rule.prints(s, words[1:])
		}
	}
	return "what"
}

// outputOf is what Execute prints for a script.
func outputOf(t *testing.T, script string) string {
	t.Helper()
	if len(script) > 400 {
		return "too long\n"
	}
	s, output := &scriptState{t: t}, ""
	for _, part := range strings.SplitAfter(script, "\n") {
		if line, whole := strings.CutSuffix(part, "\n"); whole {
			output += s.answerOf(line) + "\n"
		}
	}
	return output + "tones " + strconv.Itoa(len(s.m)) + " entries " + strconv.Itoa(len(s.entries)) + "\n"
}

func checkOutput(t *testing.T, script, want string) {
	t.Helper()
	if got := impl.Execute(script); got != want {
		t.Errorf("Execute(%q) = %q; want %q", script, got, want)
	}
}

// checkDialog runs lines, each with what it prints behind it, and compares the line behind all of them, too.
func checkDialog(t *testing.T, ending string, dialog ...string) {
	t.Helper()
	script, want := "", ""
	for i := 0; i < len(dialog); i += 2 {
		script += dialog[i] + "\n"
		want += dialog[i+1] + "\n"
	}
	checkOutput(t, script, want+ending+"\n")
}

// checkAhead compares what two scripts print ahead of the last line, if the second one has other lines behind the first one, and that this stays.
func checkAhead(t *testing.T, script, behind, answers string) {
	t.Helper()
	output := impl.Execute(script)
	cut := strings.LastIndexByte(strings.TrimSuffix(output, "\n"), '\n') + 1
	checkOutput(t, script+behind, output[:cut]+answers+output[cut:])
}

// lastAnswer is what the last line of a script prints.
func lastAnswer(t *testing.T, script string) string {
	t.Helper()
	lines := strings.Split(impl.Execute(script), "\n")
	if len(lines) < 3 {
		t.Fatalf("Execute(%q) prints no answer", script)
	}
	return lines[len(lines)-3]
}

// drawnLine is often one that succeeds behind others, and sometimes one with another byte or another word.
func drawnLine(r *rand.Rand, modal [][]impl.Tone) string {
	tones, names := strings.Fields(toneTexts+" G3 X d0"), []string{"ave", "a", "deus", "z", "abcdefghij", "abcdefghijk", "Ave", ""}
	number := func(most int) string {
		texts := []string{"", "-", "+1", "001", "x", "0", "00", "-0"}
		n := strconv.Itoa(r.IntN(most+most/3) - most/3)
		return append(slices.Repeat([]string{n}, 30), texts...)[r.IntN(30+len(texts))]
	}
	lines := []string{
		"melody", "melody " + textOf(drawn(r, between(4, 9), r.IntN(5))), "melody " + textOf(modal[r.IntN(len(modal))]), "melody " + textOf(drawn(r, allTones(), r.IntN(27))),
		"add " + tones[r.IntN(len(tones))], "add " + tones[r.IntN(7)], "add D0", "move " + number(15), "move " + number(7), "show", "steps", "sing", "neume", "modes", "mode",
		"enter " + names[r.IntN(len(names))], "enter " + string(rune('a'+r.IntN(26))), "find", "ordo " + number(8) + " " + number(14),
	}
	line := lines[r.IntN(len(lines))]
	if at := r.IntN(len(line) + 1); r.IntN(12) == 0 {
		return line[:at] + []string{" ", "  ", "x", "1", "-", "\t", "\x00", "é"}[r.IntN(8)] + line[at:]
	}
	return line
}

// drawnScripts are scripts of complete lines with at most that many bytes, always the same ones.
func drawnScripts(many, most int) []string {
	r := rand.New(rand.NewPCG(9, uint64(most)))
	modal := slices.DeleteFunc(modalMelodies(), func(m []impl.Tone) bool { return len(m) > 12 })
	list := []string{}
	for range many {
		script, lines := "", r.IntN(40)
		for range lines {
			if line := drawnLine(r, modal) + "\n"; len(script)+len(line) <= most {
				script += line
			}
		}
		list = append(list, script)
	}
	return list
}
