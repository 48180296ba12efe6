package tests

import (
	"math"
	"math/rand/v2"
	"slices"
	"strconv"
	"strings"
	"testing"

	"loop.example/neumes/impl"
)

// formulasOf reads formulas from their differences and their Weight, with commas between, as in "1 1:3,-1:2".
func formulasOf(t *testing.T, text string) []impl.Formula {
	t.Helper()
	list := []impl.Formula{}
	for _, part := range strings.Split(text, ",") {
		if text == "" {
			break
		}
		steps, weight, _ := strings.Cut(part, ":")
		list = append(list, impl.Formula{Steps: numbersOf(t, steps), Weight: numbersOf(t, weight)[0]})
	}
	return list
}

func numbersOf(t *testing.T, text string) []int {
	t.Helper()
	list := []int{}
	for _, word := range strings.Fields(text) {
		n, err := strconv.Atoi(word)
		if err != nil {
			t.Fatal(err)
		}
		list = append(list, n)
	}
	return list
}

func textOfNumbers(list []int) string {
	words := []string{}
	for _, n := range list {
		words = append(words, strconv.Itoa(n))
	}
	return strings.Join(words, " ")
}

func textOfFormulas(list []impl.Formula) string {
	parts := []string{}
	for _, f := range list {
		parts = append(parts, textOfNumbers(f.Steps)+":"+strconv.Itoa(f.Weight))
	}
	return strings.Join(parts, ",")
}

// isFormulas and the others tell what the functions of formulas return, made without the program's own functions.
func isFormulas(list []impl.Formula) bool {
	seen := map[string]bool{}
	for _, f := range list {
		key := textOfNumbers(f.Steps)
		if seen[key] || len(f.Steps) < 1 || len(f.Steps) > 5 || slices.Min(f.Steps) < -7 || slices.Max(f.Steps) > 7 || f.Weight < 1 || f.Weight > 9 {
			return false
		}
		seen[key] = true
	}
	return len(list) <= 8
}

// manyOf goes from the beginning on and counts how many readings end at each place.
func manyOf(list []impl.Formula, steps []int) int {
	many := make([]int, len(steps)+10)
	many[0] = 1
	for i := range steps {
		for _, f := range list {
			if hasBeginning(steps[i:], f.Steps) {
				many[i+len(f.Steps)] += many[i]
			}
		}
	}
	return many[len(steps)]
}

func hasBeginning(steps, first []int) bool {
	return len(first) <= len(steps) && slices.Equal(steps[:len(first)], first)
}

// readingsOf are all readings of differences, those with lower indexes first.
func readingsOf(list []impl.Formula, steps []int) [][]int {
	if len(steps) == 0 {
		return [][]int{{}}
	}
	all := [][]int{}
	for k, f := range list {
		if !hasBeginning(steps, f.Steps) {
			continue
		}
		for _, rest := range readingsOf(list, steps[len(f.Steps):]) {
			all = append(all, append([]int{k}, rest...))
		}
	}
	return all
}

func weightOf(list []impl.Formula, reading []int) int {
	weight := 0
	for _, k := range reading {
		weight += list[k].Weight
	}
	return weight
}

func builtOf(list []impl.Formula, reading []int) []int {
	steps := []int{}
	for _, k := range reading {
		steps = append(steps, list[k].Steps...)
	}
	return steps
}

// bestOf keeps the first one of the lightest readings, as they are in order.
func bestOf(list []impl.Formula, all [][]int) []int {
	best := all[0]
	for _, reading := range all {
		if weightOf(list, reading) < weightOf(list, best) {
			best = reading
		}
	}
	return best
}

func fewOf(all [][]int) int {
	few := len(all[0])
	for _, reading := range all {
		few = min(few, len(reading))
	}
	return few
}

func firstOf(all [][]int) []int {
	list := []int{}
	for _, reading := range all {
		list = append(list, reading[:min(1, len(reading))]...)
	}
	return slices.Compact(list)
}

func usedOf(all [][]int) []int {
	list := slices.Concat(all...)
	slices.Sort(list)
	return slices.Compact(list)
}

// clearOf counts the readings of all lists of the differences that the formulas have.
func clearOf(list []impl.Formula, n int) bool {
	differences := []int{}
	for _, f := range list {
		differences = append(differences, f.Steps...)
	}
	slices.Sort(differences)
	differences = slices.Compact(differences)
	lists := [][]int{{}}
	for range n {
		longer := [][]int{}
		for _, steps := range lists {
			for _, d := range differences {
				longer = append(longer, append(slices.Clone(steps), d))
			}
		}
		for _, steps := range longer {
			if manyOf(list, steps) > 1 {
				return false
			}
		}
		lists = longer
	}
	return true
}

// formulaKind tells of which differences formulas are drawn, how long they are at most, and their greatest Weight.
type formulaKind struct {
	from   []int
	most   int
	weight int
}

var formulaKinds = []formulaKind{
	{[]int{1}, 5, 9}, {[]int{-3}, 5, 2}, {[]int{0}, 4, 1},
	{[]int{1, -1}, 2, 9}, {[]int{1, -1}, 3, 2}, {[]int{2, 0}, 5, 1}, {[]int{1, -1}, 3, 9}, {[]int{7, -7}, 2, 3},
	{[]int{0, 1, -1, 2}, 2, 2}, {[]int{1, 1, 1, -2}, 3, 3}, {[]int{1, 1, 1, 1, 1, -2}, 5, 9},
	{[]int{-7, -6, -5, -4, -3, -2, -1, 0, 1, 2, 3, 4, 5, 6, 7}, 5, 9}, {[]int{-7, -2, 0, 1, 7}, 1, 9},
}

func drawnSteps(r *rand.Rand, from []int, n int) []int {
	steps := []int{}
	for range n {
		steps = append(steps, from[r.IntN(len(from))])
	}
	return steps
}

// drawnFormulas are fewer than n formulas if there are not as many different ones.
func drawnFormulas(r *rand.Rand, kind formulaKind, n int) []impl.Formula {
	list := []impl.Formula{}
	seen := map[string]bool{}
	for tries := 0; len(list) < n && tries < 400; tries++ {
		steps := drawnSteps(r, kind.from, 1+r.IntN(kind.most))
		if key := textOfNumbers(steps); !seen[key] {
			seen[key] = true
			list = append(list, impl.Formula{Steps: steps, Weight: 1 + r.IntN(kind.weight)})
		}
	}
	return list
}

// someFormulas are formulas of all kinds, always the same ones.
func someFormulas() [][]impl.Formula {
	r := rand.New(rand.NewPCG(6, 58))
	list := [][]impl.Formula{{}}
	for _, kind := range formulaKinds {
		for n := 1; n <= 8; n++ {
			list = append(list, drawnFormulas(r, kind, n), drawnFormulas(r, kind, n), drawnFormulas(r, kind, n))
		}
	}
	return list
}

// drawnReading is a list of indexes of formulas that build at most so many differences.
func drawnReading(r *rand.Rand, list []impl.Formula, most int) []int {
	reading := []int{}
	for many := 0; len(list) > 0; {
		k := r.IntN(len(list))
		many += len(list[k].Steps)
		if many > most {
			break
		}
		reading = append(reading, k)
	}
	return reading
}

// formulaCase is a list of differences with all its readings, of which there are not too many.
type formulaCase struct {
	list     []impl.Formula
	steps    []int
	readings [][]int
}

// formulaCases are differences that formulas build, such with one changed, one more, one less, and ones that are drawn.
func formulaCases() []formulaCase {
	r := rand.New(rand.NewPCG(6, 66))
	cases := []formulaCase{}
	for _, list := range someFormulas() {
		from := slices.Concat([]int{20}, builtOf(list, everyIndex(list)))
		for _, most := range []int{0, 1, 2, 3, 5, 8, 12, 17, 23} {
			built := builtOf(list, drawnReading(r, list, most))
			lists := [][]int{built, drawnSteps(r, from[min(1, len(from)-1):], most)}
			if n := len(built); n > 0 {
				lists = append(lists, built[1:], built[:n-1], replaced(built, r.IntN(n), from[r.IntN(len(from))]))
			}
			for _, steps := range lists {
				if manyOf(list, steps) <= 1000 {
					cases = append(cases, formulaCase{list, steps, readingsOf(list, steps)})
				}
			}
		}
	}
	return cases
}

func everyIndex(list []impl.Formula) []int {
	indexes := []int{}
	for k := range list {
		indexes = append(indexes, k)
	}
	return indexes
}

// outOfReach are numbers that are further away than the greatest one, up or down.
func outOfReach(most int) []int {
	list := []int{}
	for _, n := range farNumbers {
		if n > most || n < -most {
			list = append(list, n)
		}
	}
	return append(list, most+1, -most-1, most+2, -most-2, 256, 257, -256, 1<<32, 1<<32+1, -1<<32, math.MinInt+1)
}

// flawedFormulas are formulas with one flaw.
func flawedFormulas() []impl.Formula {
	list := []impl.Formula{{}, {Weight: 1}, {Steps: []int{1}}, {Steps: []int{}, Weight: 9}}
	for _, n := range []int{6, 7, 10, 23, 24, 256, 257, 261} {
		list = append(list, impl.Formula{Steps: slices.Repeat([]int{1}, n), Weight: 1})
	}
	for _, d := range outOfReach(7) {
		for i := range 5 {
			list = append(list, impl.Formula{Steps: replaced([]int{3, 1, 0, -1, 3}, i, d), Weight: 1})
		}
		list = append(list, impl.Formula{Steps: []int{d}, Weight: 5})
	}
	for _, weight := range append(outOfReach(9), 0, -1, -5, -9) {
		list = append(list, impl.Formula{Steps: []int{3}, Weight: weight})
	}
	return list
}

// noFormulas are lists with a flaw at each place, with the same differences twice, and of too many formulas.
func noFormulas(t *testing.T) [][]impl.Formula {
	good := formulasOf(t, "1:2,1 1:3,-1:1,2:9,2 -1:4,0:1,-2:2,5 5 5 5 5:1")
	list := [][]impl.Formula{}
	for _, bad := range flawedFormulas() {
		list = append(list, []impl.Formula{bad})
		for i := range good {
			list = append(list, replaced(good, i, bad))
		}
	}
	for i, f := range good {
		for k := range good[:i] {
			again := replaced(good, k, f)
			again[k].Weight = 1 + f.Weight%9
			list = append(list, again, replaced(good, k, f))
		}
	}
	for _, n := range []int{9, 10, 16} {
		many := []impl.Formula{}
		for k := range n {
			many = append(many, impl.Formula{Steps: []int{k%8 - 4, k/8 + 1}, Weight: 1})
		}
		list = append(list, many)
	}
	return append(list, slices.Repeat(good, 32), slices.Repeat(good[:1], 256))
}

// noSteps are too many differences, and ones with one too great at some place.
func noSteps() [][]int {
	list := [][]int{}
	for _, n := range []int{24, 25, 26, 48, 256, 257, 279} {
		list = append(list, slices.Repeat([]int{1}, n))
	}
	for _, d := range outOfReach(20) {
		list = append(list, []int{d}, []int{1, d}, []int{d, 1}, []int{1, d, -1})
	}
	for i := range 23 {
		full := slices.Repeat([]int{1}, 23)
		list = append(list, replaced(full, i, 21), replaced(full, i, -21))
	}
	return list
}

// spareFormulas is a copy of formulas with room behind the list and behind all their Steps.
func spareFormulas(list []impl.Formula) []impl.Formula {
	copied := spare(list)
	for i := range copied {
		copied[i].Steps = spare(copied[i].Steps)
	}
	return copied
}

// wholeFormulas tells all formulas of a list, and what is in the room behind them.
func wholeFormulas(list []impl.Formula) string {
	text := ""
	for _, f := range list[:cap(list)] {
		text += textOfNumbers(f.Steps[:cap(f.Steps)]) + ":" + strconv.Itoa(f.Weight) + ","
	}
	return text
}
