package impl

import (
	"strconv"
	"strings"
)

// StepsMax is the greatest step.
const StepsMax = 20

const (
	octaveSteps = 7
	octaveSemis = 12
	hexSteps    = 6
)

// stepLetters holds the letters of an octave, from the step 0 on.
const stepLetters = "GABCDEF"

// stepHeights holds the heights of the tones of the lowest octave that are not Soft.
var stepHeights = [octaveSteps]int{0, 2, 4, 5, 7, 9, 10}

// leastSemis holds, for each number of steps within an octave, the pure or the small number of semitones.
var leastSemis = [octaveSteps]int{0, 1, 3, 5, 7, 8, 10}

var syllableNames = [hexSteps]string{"ut", "re", "mi", "fa", "sol", "la"}

// Tone is a tone of the gamut.
type Tone struct {
	Step int
	Soft bool
}

// The methods of Tone other than valid are for valid tones only: their callers check first.

func (t Tone) valid() bool {
	if t.Step < 0 || t.Step > StepsMax {
		return false
	}
	return !t.Soft || t.letter() == "B"
}

func (t Tone) letter() string {
	place := t.Step % octaveSteps
	return stepLetters[place : place+1]
}

func (t Tone) height() int {
	h := stepHeights[t.Step%octaveSteps] + t.Step/octaveSteps*octaveSemis
	if t.Soft {
		h--
	}
	return h
}

func (t Tone) text() string {
	letter := t.letter()
	if t.Soft {
		letter = "b"
	}
	return letter + strconv.Itoa(t.Step/octaveSteps)
}

// below puts tones of one step in order by their height, as an interval has no direction there either.
func (t Tone) below(other Tone) bool {
	if t.Step != other.Step {
		return t.Step < other.Step
	}
	return t.height() < other.height()
}

// hexachord is one row of the table of hexachords.
type hexachord struct {
	first int
	kind  string
}

// tone is for syllables in the range 0 to 5 only.
func (h *hexachord) tone(syllable int) Tone {
	t := Tone{Step: h.first + syllable}
	t.Soft = h.kind == "soft" && t.letter() == "B"
	return t
}

func (h *hexachord) syllable(t Tone) int {
	for i := range hexSteps {
		if h.tone(i) == t {
			return i
		}
	}
	return -1
}

// hexachords is the table of all hexachords of the gamut, from the lowest one on.
type hexachords struct {
	rows [7]hexachord
}

func newHexachords() *hexachords {
	return &hexachords{rows: [7]hexachord{
		{0, "hard"}, {3, "natural"}, {6, "soft"},
		{7, "hard"}, {10, "natural"}, {13, "soft"},
		{14, "hard"}, // the last one: from the steps 17 and 20 on, six steps would leave the gamut
	}}
}

// at returns nil if no hexachord begins at the step.
func (all *hexachords) at(step int) *hexachord {
	for i := range all.rows {
		if all.rows[i].first == step {
			return &all.rows[i]
		}
	}
	return nil
}

// ToneValid reports whether a tone is one of the gamut.
func ToneValid(t Tone) bool {
	return t.valid()
}

// ToneLetter returns the letter of a tone, A to G, or "" if it is invalid.
func ToneLetter(t Tone) string {
	if !t.valid() {
		return ""
	}
	return t.letter()
}

// ToneHeight returns the height of a tone, and true.
func ToneHeight(t Tone) (int, bool) {
	if !t.valid() {
		return 0, false
	}
	return t.height(), true
}

// ToneText returns the letter of a tone, or b if it is Soft, and the digit of the octave.
func ToneText(t Tone) string {
	if !t.valid() {
		return ""
	}
	return t.text()
}

// ToneFrom returns the tone of which ToneText is a text, and true.
func ToneFrom(s string) (Tone, bool) {
	if len(s) != 2 {
		return Tone{}, false
	}
	letter, soft := s[0], s[0] == 'b'
	if soft {
		letter = 'B'
	}
	place := strings.IndexByte(stepLetters, letter)
	octave := int(s[1]) - '0'
	t := Tone{Step: octave*octaveSteps + place, Soft: soft}
	if place < 0 || !t.valid() {
		return Tone{}, false
	}
	return t, true
}

// ToneAbove returns the tone k steps above a tone, for any integer k (below it for a negative one), Soft if soft tells so, and true.
func ToneAbove(t Tone, k int, soft bool) (Tone, bool) {
	// A k out of this range leads out of the gamut from everywhere, and its sum with a step might wrap around.
	if !t.valid() || k < -StepsMax || k > StepsMax {
		return Tone{}, false
	}
	above := Tone{Step: t.Step + k, Soft: soft}
	if !above.valid() {
		return Tone{}, false
	}
	return above, true
}

// ToneSteps returns the step of the second tone minus that of the first one, and true.
func ToneSteps(a Tone, b Tone) (int, bool) {
	if !a.valid() || !b.valid() {
		return 0, false
	}
	return b.Step - a.Step, true
}

// ToneSemis returns the height of the second tone minus that of the first one, and true.
func ToneSemis(a Tone, b Tone) (int, bool) {
	if !a.valid() || !b.valid() {
		return 0, false
	}
	return b.height() - a.height(), true
}

// ToneInterval returns the interval of two tones, from the one with the lower step (of equal steps, from the lower one) up to the other one.
func ToneInterval(a Tone, b Tone) string {
	if !a.valid() || !b.valid() {
		return ""
	}
	if b.below(a) {
		a, b = b, a
	}
	steps := b.Step - a.Step
	return strconv.Itoa(steps+1) + intervalLetter(steps, b.height()-a.height())
}

func intervalLetter(steps int, semis int) string {
	within := steps % octaveSteps
	pure := within == 0 || within == 3 || within == 4
	over := semis - steps/octaveSteps*octaveSemis - leastSemis[within]
	switch {
	case over < 0:
		return "d"
	case over == 0 && pure:
		return "p"
	case over == 0:
		return "s"
	case over == 1 && !pure:
		return "g"
	}
	return "a"
}

// HexValid reports whether a hexachord begins at a step.
func HexValid(step int) bool {
	return newHexachords().at(step) != nil
}

// HexTone returns the tone of a syllable of a hexachord, and true.
func HexTone(step int, syllable int) (Tone, bool) {
	h := newHexachords().at(step)
	if h == nil || syllable < 0 || syllable >= hexSteps {
		return Tone{}, false
	}
	return h.tone(syllable), true
}

// HexSyllable returns the syllable that a tone has in the hexachord that begins at a step, or -1 if it has none or one of both is invalid.
func HexSyllable(step int, t Tone) int {
	h := newHexachords().at(step)
	if h == nil {
		return -1
	}
	return h.syllable(t)
}

// HexAll returns the steps at which the hexachords begin that have a tone, ascending.
func HexAll(t Tone) []int {
	steps := []int{}
	all := newHexachords()
	for i := range all.rows {
		if all.rows[i].syllable(t) >= 0 {
			steps = append(steps, all.rows[i].first)
		}
	}
	return steps
}

// ToneNames returns the names of the syllables of a tone in all its hexachords, from the highest hexachord to the lowest one, with spaces between.
func ToneNames(t Tone) string {
	names := []string{}
	all := newHexachords()
	for i := len(all.rows) - 1; i >= 0; i-- {
		if k := all.rows[i].syllable(t); k >= 0 {
			names = append(names, syllableNames[k])
		}
	}
	return strings.Join(names, " ")
}

// HexKind returns hard, natural or soft for a hexachord that begins at G, C or F, or "" if none begins at the step.
func HexKind(step int) string {
	h := newHexachords().at(step)
	if h == nil {
		return ""
	}
	return h.kind
}
