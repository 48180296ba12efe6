package tests

import (
	"math/rand/v2"
	"slices"
	"testing"

	"loop.example/neumes/impl"
)

func TestP58FormulasBuild(t *testing.T) {
	r := rand.New(rand.NewPCG(58, 1))
	built, tooLong := 0, 0
	for _, list := range someFormulas() {
		for n := range 26 {
			reading := []int{}
			if len(list) > 0 {
				reading = drawnSteps(r, everyIndex(list), n)
			}
			want := builtOf(list, reading)
			got, ok := impl.FormulasBuild(list, reading)
			if is := len(want) <= 23; ok != is || is && !slices.Equal(got, want) || !is && len(got) > 0 {
				t.Errorf("FormulasBuild(%s, %v) = %v, %v", textOfFormulas(list), reading, got, ok)
			}
			if !ok {
				tooLong++
				continue
			}
			built++
			checkBuilt(t, list, reading, got)
		}
	}
	if built < 1000 || tooLong < 1000 {
		t.Errorf("just %d lists build differences, and %d too many", built, tooLong)
	}
}

// checkBuilt is for a list of indexes that builds differences.
func checkBuilt(t *testing.T, list []impl.Formula, reading, steps []int) {
	t.Helper()
	best, ok := impl.FormulasBest(list, steps)
	if many := impl.FormulasMany(list, steps); many < 1 || many != manyOf(list, steps) || !ok {
		t.Errorf("FormulasBuild(%s, %v) = %v, which has %d readings, the best one %v", textOfFormulas(list), reading, steps, many, best)
	}
	if weight := impl.FormulasWeight(list, reading); weight != weightOf(list, reading) || impl.FormulasWeight(list, best) > weight {
		t.Errorf("FormulasWeight(%s, %v) = %d, but that of %v is %d", textOfFormulas(list), reading, weight, best, impl.FormulasWeight(list, best))
	}
	if few := impl.FormulasFew(list, steps); few < 0 || few > len(reading) {
		t.Errorf("FormulasFew(%s, %v) = %d, but %v builds it", textOfFormulas(list), steps, few, reading)
	}
	for n := range len(reading) + 1 {
		a, okA := impl.FormulasBuild(list, reading[:n])
		b, okB := impl.FormulasBuild(list, reading[n:])
		if !okA || !okB || !slices.Equal(slices.Concat(a, b), steps) {
			t.Errorf("FormulasBuild of %v and of %v = %v and %v; together %v", reading[:n], reading[n:], a, b, steps)
		}
	}
}

func TestP58FormulasBuildEdges(t *testing.T) {
	for _, c := range []struct {
		list    string
		reading []int
		want    string
		weight  int
		ok      bool
	}{
		{"", nil, "", 0, true}, {"", []int{0}, "", -1, false}, {"1:2", nil, "", 0, true}, {"1:2", []int{0}, "1", 2, true},
		{"1:2,1 1:3,-1:1", []int{0, 1, 2}, "1 1 1 -1", 6, true}, {"1:2,1 1:3,-1:1", []int{2, 1, 0, 0}, "-1 1 1 1 1", 8, true},
		{"1:2,1 1:3,-1:1", []int{0, 3}, "", -1, false}, {"1:2,1 1:3,-1:1", []int{-1, 0}, "", -1, false}, {"1:2,1 1:3,-1:1", []int{0, 1, -1}, "", -1, false},
		{"7 7 7 7 7:9,-7:1", []int{0, 1, 0}, "7 7 7 7 7 -7 7 7 7 7 7", 19, true},
		{"1:9", slices.Repeat([]int{0}, 23), textOfNumbers(slices.Repeat([]int{1}, 23)), 207, true}, {"1:9", slices.Repeat([]int{0}, 24), "", 216, false}, {"1:9", slices.Repeat([]int{0}, 1000), "", 9000, false},
		{"0 0 0 0 0:1,0 0 0:2", []int{0, 0, 0, 0, 1}, textOfNumbers(make([]int, 23)), 6, true}, {"0 0 0 0 0:1,0 0 0 0:2", []int{0, 0, 0, 0, 1}, "", 6, false}, {"0 0 0 0 0:1", []int{0, 0, 0, 0, 0}, "", 5, false},
		{"1:1,1:2", []int{0}, "", -1, false}, {"1:1,2:10", []int{0}, "", -1, false}, {"1:1,2:0", nil, "", -1, false}, {"8:1", []int{0}, "", -1, false}, {"1 1 1 1 1 1:1", nil, "", -1, false},
	} {
		list := formulasOf(t, c.list)
		got, ok := impl.FormulasBuild(list, c.reading)
		if ok != c.ok || textOfNumbers(got) != c.want {
			t.Errorf("FormulasBuild(%s, %v) = %v, %v", c.list, c.reading, got, ok)
		}
		if weight := impl.FormulasWeight(list, c.reading); weight != c.weight {
			t.Errorf("FormulasWeight(%s, %v) = %d; want %d", c.list, c.reading, weight, c.weight)
		}
	}
}

func TestP58InvalidIndexes(t *testing.T) {
	for _, text := range []string{"", "1:2", "1:2,1 1:3,-1:1", "1:1,2:1,3:1,4:1,5:1,6:1,7:1,0:1"} {
		list := formulasOf(t, text)
		for _, bad := range append(outOf(len(list)-1), 256, 257, 1<<32+2, -1<<32) {
			readings := [][]int{{bad}, slices.Repeat([]int{bad}, 24)}
			if len(list) > 0 {
				readings = append(readings, []int{0, bad}, []int{bad, 0}, []int{0, bad, 0}, append(slices.Repeat([]int{0}, 24), bad))
			}
			for _, reading := range readings {
				got, ok := impl.FormulasBuild(list, reading)
				if weight := impl.FormulasWeight(list, reading); ok || len(got) > 0 || weight != -1 {
					t.Errorf("FormulasBuild(%s, %v) = %v, %v, and the weight is %d", text, reading, got, ok, weight)
				}
			}
		}
	}
}

func TestP58FormulasValid(t *testing.T) {
	for _, list := range someFormulas() {
		if !isFormulas(list) || !impl.FormulasValid(list) {
			t.Errorf("FormulasValid(%s) does not hold", textOfFormulas(list))
		}
		for k, f := range list {
			again := slices.Insert(slices.Clone(list), k, impl.Formula{Steps: f.Steps, Weight: 1 + f.Weight%9})
			if impl.FormulasValid(again) {
				t.Errorf("FormulasValid(%s) holds", textOfFormulas(again))
			}
		}
	}
	for _, text := range []string{"", "-7:1", "7:9", "7 -7 7 -7 7:9,-7 7 -7 7 -7:1", "1:1,1 1:1,1 1 1:1,1 1 1 1:1,1 1 1 1 1:1", "0:1,0 0:1,0 0 0:1", "1 2:1,2 1:1", "1 -1:1,1 1:1,-1:1,1:1"} {
		if !impl.FormulasValid(formulasOf(t, text)) {
			t.Errorf("FormulasValid(%s) does not hold", text)
		}
	}
	if !impl.FormulasValid(nil) {
		t.Errorf("FormulasValid of nil does not hold")
	}
}

// TestP58NoFormulas checks all functions, as none of them takes lists that are no formulas.
func TestP58NoFormulas(t *testing.T) {
	tone := toneOf(t, "D0")
	for _, list := range noFormulas(t) {
		if isFormulas(list) || impl.FormulasValid(list) {
			t.Fatalf("FormulasValid(%v) holds", list)
		}
		checkNoReading(t, list, []int{}, -1)
		checkNoReading(t, list, []int{1, 1, -1}, -1)
		for _, reading := range [][]int{{}, {0}, {1, 0}, {9}} {
			steps, ok := impl.FormulasBuild(list, reading)
			m, is := impl.FormulasMelody(list, reading, tone)
			if weight := impl.FormulasWeight(list, reading); ok || is || len(steps) > 0 || len(m) > 0 || weight != -1 {
				t.Errorf("with %v, %v builds %v, the melody %v, and the weight is %d", list, reading, steps, m, weight)
			}
		}
		for _, m := range []string{"", "D0", "D0 E0", "D0 D0"} {
			checkNotRead(t, list, tonesOf(t, m))
		}
		for n := -1; n <= 9; n++ {
			if impl.FormulasClear(list, n) {
				t.Errorf("FormulasClear(%v, %d) holds", list, n)
			}
			if others, ok := impl.FormulasWithout(list, n); ok || len(others) > 0 {
				t.Errorf("FormulasWithout(%v, %d) = %v, %v", list, n, others, ok)
			}
		}
	}
}

// checkNoReading is for differences without a reading; many is what FormulasMany must return.
func checkNoReading(t *testing.T, list []impl.Formula, steps []int, many int) {
	t.Helper()
	best, ok := impl.FormulasBest(list, steps)
	first, used := impl.FormulasFirst(list, steps), impl.FormulasUsed(list, steps)
	if got := impl.FormulasMany(list, steps); got != many || ok || len(best)+len(first)+len(used) > 0 || impl.FormulasFew(list, steps) != -1 {
		t.Errorf("with %s, %v has %d readings, the best one %v, begins with %v and uses %v", textOfFormulas(list), steps, got, best, first, used)
	}
}

func checkNotRead(t *testing.T, list []impl.Formula, m []impl.Tone) {
	t.Helper()
	if reading, ok := impl.FormulasRead(list, m); ok || len(reading) > 0 {
		t.Errorf("FormulasRead(%s, %v) = %v, %v", textOfFormulas(list), m, reading, ok)
	}
}

func TestP59FormulasMany(t *testing.T) {
	numbers := map[int]int{}
	for _, c := range formulaCases() {
		many, first := impl.FormulasMany(c.list, c.steps), impl.FormulasFirst(c.list, c.steps)
		if many != len(c.readings) || !slices.Equal(first, firstOf(c.readings)) {
			t.Errorf("with %s, %v has %d readings and begins with %v; want %d and %v", textOfFormulas(c.list), c.steps, many, first, len(c.readings), firstOf(c.readings))
		}
		numbers[min(many, 9)]++
		if len(c.steps) == 0 {
			continue
		}
		sum, beginnings := 0, 0
		for _, f := range c.list {
			if !hasBeginning(c.steps, f.Steps) {
				continue
			}
			rest := impl.FormulasMany(c.list, c.steps[len(f.Steps):])
			sum += rest
			beginnings += min(rest, 1)
		}
		if sum != many || beginnings != len(first) {
			t.Errorf("with %s, %v has %d readings and begins with %v, but behind the formulas there are %d", textOfFormulas(c.list), c.steps, many, first, sum)
		}
	}
	for _, n := range []int{0, 1, 2, 3, 9} {
		if numbers[n] < 50 {
			t.Errorf("too few differences have %d readings: %v", n, numbers)
		}
	}
}

func TestP59FormulasManyEdges(t *testing.T) {
	for _, c := range []struct {
		list, steps string
		many        int
		first       string
	}{
		{"", "", 1, ""}, {"1:1", "", 1, ""}, {"", "1", 0, ""}, {"1:1", "1", 1, "0"}, {"1:1", "-1", 0, ""}, {"1:1", "2", 0, ""}, {"1 1:1", "1", 0, ""}, {"1:1", "1 1", 1, "0"},
		{"1:2,1 1:3,-1:1", "1 1 1 -1", 3, "0 1"}, {"1:2,1 1:3,-1:1", "1 1 1 -1 2", 0, ""}, {"1:2,1 1:3,-1:1", "-1 1 1", 2, "2"},
		{"1 1:1,1 1 1:1", "1", 0, ""}, {"1 1:1,1 1 1:1", "1 1 1 1", 1, "0"}, {"1 1:1,1 1 1:1", "1 1 1 1 1", 2, "0 1"}, {"1 1:1,1 1 1:1", "1 1 1 1 1 1", 2, "0 1"}, {"1 1 1:1,1 1:1", "1 1 1 1", 1, "1"},
		{"2:1,2 1:1,1 2:1,1:1", "2 1 2", 3, "0 1"}, {"2:1,2 1:1,1 2:1", "2 1 2", 2, "0 1"}, {"2 1:1,1 2:1", "2 1 2", 0, ""}, {"5:1,2 1:1,2:1,1 2:1,2 1 2:1", "2 1 2", 3, "1 2 4"},
		{"1 1 1 1 1:1", "1 1 1 1", 0, ""}, {"1 1 1 1 1:1", "1 1 1 1 1", 1, "0"}, {"1 1 1 1 1:1", "1 1 1 1 1 1", 0, ""},
		{"1:1", "20", 0, ""}, {"1:1", "-20", 0, ""}, {"7:1,-7:1", "7 -7 7", 1, "0"}, {"7:1,-7:1", "-7 -7 8", 0, ""},
	} {
		list, steps := formulasOf(t, c.list), numbersOf(t, c.steps)
		if many, first := impl.FormulasMany(list, steps), textOfNumbers(impl.FormulasFirst(list, steps)); many != c.many || first != c.first {
			t.Errorf("with %s, %v has %d readings and begins with %s; want %d and %s", c.list, steps, many, first, c.many, c.first)
		}
	}
}

// onesOf are the formulas of 1 to most differences of one step up.
func onesOf(most int) []impl.Formula {
	list := []impl.Formula{}
	for n := 1; n <= most; n++ {
		list = append(list, impl.Formula{Steps: slices.Repeat([]int{1}, n), Weight: n})
	}
	return list
}

func TestP59VeryManyReadings(t *testing.T) {
	full := slices.Repeat([]int{1}, 23)
	for most, want := range map[int]int{1: 1, 2: 46368, 3: 755476, 4: 2033628, 5: 3040048} {
		list := onesOf(most)
		if many := impl.FormulasMany(list, full); many != want || many != manyOf(list, full) {
			t.Errorf("FormulasMany of formulas of up to %d = %d; want %d", most, many, want)
		}
		if first, used := impl.FormulasFirst(list, full), impl.FormulasUsed(list, full); len(first) != most || len(used) != most {
			t.Errorf("formulas of up to %d begin with %v and use %v", most, first, used)
		}
		if few := impl.FormulasFew(list, full); few != (23+most-1)/most {
			t.Errorf("FormulasFew of formulas of up to %d = %d", most, few)
		}
		if best, ok := impl.FormulasBest(list, full); !ok || !slices.Equal(best, make([]int, 23)) {
			t.Errorf("FormulasBest of formulas of up to %d = %v, %v", most, best, ok)
		}
		checkNoReading(t, list, append(full[:22:22], 2), 0)
	}
}

func TestP59InvalidDifferences(t *testing.T) {
	for _, text := range []string{"", "1:1", "1:1,1 1:1,-1:1,7:1", "1 1 1 1 1:9"} {
		list := formulasOf(t, text)
		for _, steps := range noSteps() {
			checkNoReading(t, list, steps, -1)
		}
		for _, d := range []int{-20, -8, 8, 20} {
			for i := range 23 {
				checkNoReading(t, list, replaced(slices.Repeat([]int{1}, 23), i, d), 0)
			}
		}
	}
}

func TestP60FormulasBest(t *testing.T) {
	ties := 0
	for _, c := range formulaCases() {
		if len(c.readings) == 0 {
			checkNoReading(t, c.list, c.steps, 0)
			continue
		}
		want := bestOf(c.list, c.readings)
		best, ok := impl.FormulasBest(c.list, c.steps)
		if !ok || !slices.Equal(best, want) {
			t.Errorf("FormulasBest(%s, %v) = %v, %v; want %v", textOfFormulas(c.list), c.steps, best, ok, want)
			continue
		}
		if built, ok := impl.FormulasBuild(c.list, best); !ok || !slices.Equal(built, c.steps) {
			t.Errorf("FormulasBest(%s, %v) = %v, which builds %v", textOfFormulas(c.list), c.steps, best, built)
		}
		light := func(reading []int) bool { return weightOf(c.list, reading) == weightOf(c.list, want) }
		if len(slices.DeleteFunc(slices.Clone(c.readings), func(reading []int) bool { return !light(reading) })) > 1 {
			ties++
		}
		if len(best) > 0 {
			checkBest(t, c.list, c.steps, best)
		}
	}
	if ties < 200 {
		t.Errorf("just %d lists have several lightest readings", ties)
	}
}

// checkBest compares the best reading with those behind each first formula.
func checkBest(t *testing.T, list []impl.Formula, steps, best []int) {
	t.Helper()
	weight := impl.FormulasWeight(list, best)
	for k, f := range list {
		if !hasBeginning(steps, f.Steps) {
			continue
		}
		rest, ok := impl.FormulasBest(list, steps[len(f.Steps):])
		if !ok {
			continue
		}
		sum := f.Weight + impl.FormulasWeight(list, rest)
		if k == best[0] && sum != weight || sum < weight || k < best[0] && sum == weight {
			t.Errorf("FormulasBest(%s, %v) = %v with the weight %d, but the formula %d leads to %d", textOfFormulas(list), steps, best, weight, k, sum)
		}
	}
}

func TestP60FormulasBestEdges(t *testing.T) {
	for _, c := range []struct{ list, steps, best string }{
		{"", "", ""}, {"1:1", "", ""}, {"1:9", "1", "0"}, {"2:1,1:9", "1", "1"},
		{"1:2,1 1:3,-1:1", "1 1 1 -1", "0 1 2"}, {"1:2,1 1:3,-1:1", "1 1", "1"}, {"1:1,1 1:2", "1 1", "0 0"}, {"1 1:2,1:1", "1 1", "0"}, {"1:1,1 1:3", "1 1", "0 0"}, {"1 1:3,1:1", "1 1", "1 1"},
		{"1 1:2,1:1", "1 1 1", "0 1"}, {"1:1,1 1:2", "1 1 1", "0 0 0"}, {"1:2,1 1:3", "1 1 1 1 1", "0 1 1"}, {"1 1:3,1:2", "1 1 1 1 1", "0 0 1"},
		{"2:5,2 1:1,1 2:1", "2 1 2", "0 2"}, {"2:5,2 1:1,1 2:2", "2 1 2", "1 0"}, {"2 1:1,2:5,1 2:1", "2 1 2", "0 1"}, {"2:1,1 2:5,2 1:5", "2 1 2", "0 1"}, {"2 1:5,2:1,1 2:5", "2 1 2", "0 1"}, {"2:1,2 1:5,1 2:4", "2 1 2", "0 2"}, {"2:1,2 1:4,1 2:5", "2 1 2", "1 0"},
		{"3:1,2 1:2,2:1,1:1", "3 2 1", "0 1"}, {"3:1,2:1,1:1,2 1:2", "3 2 1", "0 1 2"}, {"3:1,2:1,1:2,2 1:2", "3 2 1", "0 3"},
		{"1 1 1:9,1:2", "1 1 1", "1 1 1"}, {"1 1 1:6,1:2", "1 1 1", "0"}, {"1:2,1 1 1:6", "1 1 1", "0 0 0"}, {"1 1 1 1 1:9,1:1", "1 1 1 1 1 1", "1 1 1 1 1 1"}, {"1 1 1 1 1:4,1:1", "1 1 1 1 1 1", "0 1"}, {"1:1,1 1 1 1 1:4", "1 1 1 1 1 1", "0 1"},
		{"1:9,1 1:1", "1 1 1", "0 1"}, {"1 1:1,1:9", "1 1 1", "0 1"}, {"1:9,1 1:1,1 1 1:9", "1 1 1", "2"},
	} {
		list, steps := formulasOf(t, c.list), numbersOf(t, c.steps)
		if best, ok := impl.FormulasBest(list, steps); !ok || textOfNumbers(best) != c.best {
			t.Errorf("FormulasBest(%s, %s) = %v, %v; want %s", c.list, c.steps, best, ok, c.best)
		}
	}
}

func TestP61FormulasFew(t *testing.T) {
	heavier := 0
	for _, c := range formulaCases() {
		few := impl.FormulasFew(c.list, c.steps)
		if (few == -1) != (impl.FormulasMany(c.list, c.steps) == 0) {
			t.Errorf("FormulasFew(%s, %v) = %d, and there are %d readings", textOfFormulas(c.list), c.steps, few, len(c.readings))
		}
		if len(c.readings) == 0 {
			continue
		}
		best, _ := impl.FormulasBest(c.list, c.steps)
		if few != fewOf(c.readings) || few > len(best) || len(best)*len(c.steps) < len(c.steps) || few*5 < len(c.steps) {
			t.Errorf("FormulasFew(%s, %v) = %d; want %d, and the best one is %v", textOfFormulas(c.list), c.steps, few, fewOf(c.readings), best)
		}
		if few < len(best) {
			heavier++
		}
	}
	if heavier < 100 {
		t.Errorf("just %d lists have a best reading that has not the fewest formulas", heavier)
	}
}

func TestP61FormulasFewEdges(t *testing.T) {
	for _, c := range []struct {
		list, steps string
		few         int
	}{
		{"", "", 0}, {"1:1", "", 0}, {"", "1", -1}, {"1:1", "2", -1}, {"1:1", "1 1 1", 3}, {"1:1,1 1:9", "1 1 1", 2}, {"1:1,1 1:9,1 1 1:9", "1 1 1", 1}, {"1:2,1 1:3,-1:1", "1 1 1 -1", 3},
		{"1 1:1,1 1 1:1", "1", -1}, {"1 1:1,1 1 1:1", "1 1 1 1", 2}, {"1 1 1 1:1,1 1 1:1,1:1", "1 1 1 1 1 1", 2}, {"1 1 1 1:1,1:1", "1 1 1 1 1 1", 3}, {"1 1 1 1 1:1,1 1:1,1 1 1:1", "1 1 1 1 1 1", 2},
	} {
		if few := impl.FormulasFew(formulasOf(t, c.list), numbersOf(t, c.steps)); few != c.few {
			t.Errorf("FormulasFew(%s, %s) = %d; want %d", c.list, c.steps, few, c.few)
		}
	}
}

func TestP62FormulasUsed(t *testing.T) {
	unused := 0
	for _, c := range formulaCases() {
		used := impl.FormulasUsed(c.list, c.steps)
		if !slices.Equal(used, usedOf(c.readings)) {
			t.Errorf("FormulasUsed(%s, %v) = %v; want %v", textOfFormulas(c.list), c.steps, used, usedOf(c.readings))
		}
		if len(used) == 0 {
			continue
		}
		best, _ := impl.FormulasBest(c.list, c.steps)
		for _, k := range append(best, impl.FormulasFirst(c.list, c.steps)...) {
			if !slices.Contains(used, k) {
				t.Errorf("FormulasUsed(%s, %v) = %v without %d", textOfFormulas(c.list), c.steps, used, k)
			}
		}
		many := impl.FormulasMany(c.list, c.steps)
		for k := range c.list {
			others, _ := impl.FormulasWithout(c.list, k)
			if less := impl.FormulasMany(others, c.steps) < many; less != slices.Contains(used, k) {
				t.Errorf("FormulasUsed(%s, %v) = %v, but without %d there are fewer readings: %v", textOfFormulas(c.list), c.steps, used, k, less)
			}
			if !slices.Contains(used, k) {
				unused++
			}
		}
	}
	if unused < 500 {
		t.Errorf("just %d formulas are in no reading", unused)
	}
}

func TestP62FormulasUsedEdges(t *testing.T) {
	for _, c := range []struct{ list, steps, used string }{
		{"", "", ""}, {"1:1", "", ""}, {"", "1", ""}, {"1:1", "1", "0"}, {"2:1,1:1", "1", "1"}, {"1:1,1 1:1", "1", "0"}, {"1:1,1 1:1", "1 1", "0 1"}, {"1 1:1,1:1,1 1 1:1", "1 1", "0 1"},
		{"1:2,1 1:3,-1:1", "1 1 1 -1", "0 1 2"}, {"-1:2,1 1:3,1:1", "1 -1 1", "0 2"}, {"1 1:1,1 1 1:1", "1 1 1 1", "0"}, {"1 1:1,1 1 1:1", "1 1 1 1 1", "0 1"}, {"1 1:1,1 1 1:1", "1", ""}, {"1:1,2 1:1", "1 2", ""},
		{"2:1,1 2:1,2 1:1,1:1", "2 1 2", "0 1 2 3"}, {"2:1,1 2:1,2 1:1", "2 1 2", "0 1 2"}, {"2 1:9,1 2 3:1,1 2:1,2:1", "2 1 2", "0 2 3"}, {"2 1:9,1 2:1,2:1", "2 1 2 1", "0"}, {"2 1:9,1 2:1,2:1,1:1", "2 1 2 1", "0 1 2 3"},
	} {
		if used := textOfNumbers(impl.FormulasUsed(formulasOf(t, c.list), numbersOf(t, c.steps))); used != c.used {
			t.Errorf("FormulasUsed(%s, %s) = %s; want %s", c.list, c.steps, used, c.used)
		}
	}
}

func TestP63FormulasClear(t *testing.T) {
	last := map[int]int{}
	for i, list := range someFormulas() {
		from := 0
		for n := 0; n <= 5; n++ {
			is := impl.FormulasClear(list, n)
			if is {
				from = n
			}
			if wide := i%24 > 0 && len(list) > 2 && n > 3; !wide && is != clearOf(list, n) {
				t.Errorf("FormulasClear(%s, %d) = %v", textOfFormulas(list), n, is)
			}
			if is {
				checkClear(t, list, n)
			}
		}
		last[from]++
	}
	for n := 1; n <= 5; n++ {
		if last[n] < 5 {
			t.Errorf("too few formulas are clear for %d differences alone: %v", n, last)
		}
	}
}

// checkClear is for formulas that are clear for up to n differences.
func checkClear(t *testing.T, list []impl.Formula, n int) {
	t.Helper()
	for less := range n {
		if !impl.FormulasClear(list, less) {
			t.Errorf("FormulasClear(%s, %d) does not hold, but for %d it does", textOfFormulas(list), less, n)
		}
	}
	for k, f := range list {
		if others, ok := impl.FormulasWithout(list, k); !ok || !impl.FormulasClear(others, n) {
			t.Errorf("FormulasClear(%s, %d) does not hold without the formula %d", textOfFormulas(list), n, k)
		}
		for i := range list {
			steps, ok := impl.FormulasBuild(list, []int{k, i})
			if many := impl.FormulasMany(list, steps); !ok || len(steps) <= n && many != 1 {
				t.Errorf("FormulasClear(%s, %d) holds, but %v has %d readings", textOfFormulas(list), n, steps, many)
			}
		}
		if many := impl.FormulasMany(list, f.Steps); len(f.Steps) <= n && many != 1 {
			t.Errorf("FormulasClear(%s, %d) holds, but %v has %d readings", textOfFormulas(list), n, f.Steps, many)
		}
	}
}

func TestP63FormulasClearEdges(t *testing.T) {
	for _, c := range []struct {
		list string
		last int
	}{
		{"", 5}, {"1:1", 5}, {"1 1 1 1 1:9", 5}, {"1:1,-1:1", 5}, {"1:1,2:1,3:1,4:1,5:1,6:1,7:1,0:1", 5}, {"1:2,1 1:3,-1:1", 1}, {"1 1:3,-1:1", 5}, {"1:1,1 1:1", 1}, {"1 1:1,1:1", 1},
		{"1:1,1 1 1:1", 2}, {"1:1,1 1 1 1:1", 3}, {"1:1,1 1 1 1 1:1", 4}, {"1 1:1,1 1 1:1", 4}, {"1 1:1,1 1 1 1:1", 3}, {"1 1 1:1,1 1 1 1:1", 5}, {"1 1:1,1 1 1 1 1:1", 5}, {"0:1,0 0:1", 1},
		{"2 1:1,1 2:1,2:1", 2}, {"2 1:1,1 2:1", 5}, {"1 -1:1,-1 1:1,1:1", 2}, {"1 -1:1,-1 1:1", 5}, {"1 2:1,3:1,1 2 3:1", 2}, {"1 2 3:1,4 5:1,1 2:1,3 4 5:1", 4}, {"1 2:1,3 4 5:1,1 2 3 4 5:1", 4}, {"1 2:1,3 4:1,1 2 3 4:1", 3}, {"1 2 3:1,4 5:1,1 2:1,3 4 6:1", 5},
		{"1:1,1 2:1,2 3:1,3:1", 2}, {"1:1,2 3:1,1 2:1,3 4:1,4:1", 3}, {"1:1,2 3:1,4 5:1,1 2:1,3 4:1,5:1", 4}, {"1:1,2 3:1,4 5:1,6:1,1 2:1,3 4:1,5 6:1", 5},
	} {
		list := formulasOf(t, c.list)
		for n := 0; n <= 5; n++ {
			if impl.FormulasClear(list, n) != (n <= c.last) {
				t.Errorf("FormulasClear(%s, %d) is wrong", c.list, n)
			}
		}
		for _, n := range append(outOf(5), farNumbers...) {
			if impl.FormulasClear(list, n) {
				t.Errorf("FormulasClear(%s, %d) holds", c.list, n)
			}
		}
	}
}

// formulaSungOf tells what FormulasMelody returns for formulas, a list of indexes and a tone, made without the program's own functions.
func formulaSungOf(list []impl.Formula, reading []int, x impl.Tone) ([]impl.Tone, bool) {
	m := []impl.Tone{x}
	for _, d := range builtOf(list, reading) {
		m = append(m, impl.Tone{Step: m[len(m)-1].Step + d})
	}
	for _, x := range m {
		if !isTone(x) {
			return nil, false
		}
	}
	return m, len(m) <= 24
}

func TestP64FormulasMelody(t *testing.T) {
	r := rand.New(rand.NewPCG(64, 1))
	sung, refused := 0, 0
	for _, list := range someFormulas() {
		isClear := impl.FormulasClear(list, 5)
		for _, most := range []int{0, 1, 3, 5, 9, 16, 23, 28} {
			reading := drawnReading(r, list, most)
			for _, x := range allTones() {
				want, is := formulaSungOf(list, reading, x)
				m, ok := impl.FormulasMelody(list, reading, x)
				if ok != is || is && !slices.Equal(m, want) || !is && len(m) > 0 {
					t.Errorf("FormulasMelody(%s, %v, %v) = %v, %v", textOfFormulas(list), reading, x, m, ok)
				}
				if !ok {
					refused++
					continue
				}
				sung++
				checkSung(t, list, reading, m, isClear)
			}
		}
	}
	if sung < 5000 || refused < 5000 {
		t.Errorf("just %d melodies were made and %d refused", sung, refused)
	}
}

// checkSung is for a melody that has been made of a list of indexes.
func checkSung(t *testing.T, list []impl.Formula, reading []int, m []impl.Tone, isClear bool) {
	t.Helper()
	built, _ := impl.FormulasBuild(list, reading)
	if !slices.Equal(impl.MelodySteps(m), built) {
		t.Errorf("FormulasMelody(%s, %v, %v) = %s", textOfFormulas(list), reading, m[0], textOf(m))
	}
	if back, ok := impl.FormulasRead(list, m); !ok || isClear && len(built) <= 5 && !slices.Equal(back, reading) {
		t.Errorf("FormulasMelody(%s, %v, %v) = %s, which is read as %v, %v", textOfFormulas(list), reading, m[0], textOf(m), back, ok)
	}
}

func TestP64FormulasMelodyEdges(t *testing.T) {
	for _, c := range []struct {
		list    string
		reading []int
		tone, m string
	}{
		{"", nil, "D0", "D0"}, {"", nil, "b2", "b2"}, {"", []int{0}, "D0", ""}, {"1:1", nil, "F2", "F2"}, {"1:1", []int{0}, "F2", ""}, {"-1:1", []int{0}, "G0", ""}, {"0:1", []int{0, 0}, "F2", "F2 F2 F2"}, {"0:1", []int{0, 0}, "G0", "G0 G0 G0"},
		{"0:1", []int{0, 0}, "b1", "b1 B1 B1"}, {"0:1", []int{0}, "B1", "B1 B1"}, {"1:1,-1:1", []int{0, 1}, "b0", "b0 C0 B0"}, {"1:1,-1:1", []int{0, 1}, "A1", "A1 B1 A1"}, {"7:1,-7:1", []int{0, 0, 1}, "b0", "b0 B1 B2 B1"},
		{"1:2,1 1:3,-1:1", []int{0, 1, 2}, "D0", "D0 E0 F0 G1 F0"}, {"1:2,1 1:3,-1:1", []int{0, 1, 2}, "C2", "C2 D2 E2 F2 E2"}, {"1:2,1 1:3,-1:1", []int{0, 1, 2}, "D2", ""}, {"1:2,1 1:3,-1:1", []int{2, 0}, "G0", ""}, {"1:2,1 1:3,-1:1", []int{2, 0}, "A0", "A0 G0 A0"},
		{"7 7:1,-7:1", []int{0}, "F0", "F0 F1 F2"}, {"7 7:1,-7:1", []int{0}, "G1", ""}, {"7 7:1,-7:1", []int{0, 1}, "G1", ""}, {"-7:1,7:1", []int{0, 1}, "F0", ""}, {"1:1", []int{1}, "D0", ""}, {"1:1", []int{-1}, "D0", ""}, {"1:1,1:2", nil, "D0", ""},
	} {
		m, ok := impl.FormulasMelody(formulasOf(t, c.list), c.reading, toneOf(t, c.tone))
		if ok != (c.m != "") || textOf(m) != c.m {
			t.Errorf("FormulasMelody(%s, %v, %s) = %s, %v; want %s", c.list, c.reading, c.tone, textOf(m), ok, c.m)
		}
	}
	still := formulasOf(t, "0 0 0 0 0:1,0:1")
	full := []int{0, 0, 0, 0, 1, 1, 1}
	if m, ok := impl.FormulasMelody(still, full, toneOf(t, "b1")); !ok || len(m) != 24 || m[23] != toneOf(t, "B1") {
		t.Errorf("FormulasMelody of 23 differences = %v, %v", m, ok)
	}
	if m, ok := impl.FormulasMelody(still, append(full, 1), toneOf(t, "D0")); ok || len(m) > 0 {
		t.Errorf("FormulasMelody of 24 differences = %v, %v", m, ok)
	}
}

func TestP64InvalidTones(t *testing.T) {
	for _, text := range []string{"", "1:2", "1:2,-1 -1:3,-7:1,7:1,0:1"} {
		list := formulasOf(t, text)
		for _, bad := range badTones() {
			for _, reading := range [][]int{{}, {0}, {1}, {2}, {3}, {4}, {3, 3, 3}} {
				if m, ok := impl.FormulasMelody(list, reading, bad); ok || len(m) > 0 {
					t.Errorf("FormulasMelody(%s, %v, %v) = %v, %v", text, reading, bad, m, ok)
				}
			}
		}
	}
}

// formulaMelodies are melodies of the formulas, some with Soft tones behind the first one, and others.
func formulaMelodies(r *rand.Rand, list []impl.Formula) [][]impl.Tone {
	melodies := [][]impl.Tone{{}, drawn(r, allTones(), 1), drawn(r, allTones(), 2), drawn(r, bTones(), 3)}
	for tries := 0; tries < 60; tries++ {
		m, ok := formulaSungOf(list, drawnReading(r, list, 1+r.IntN(9)), drawn(r, allTones(), 1)[0])
		if !ok {
			continue
		}
		melodies = append(melodies, m)
		softer := slices.Clone(m)
		for i, x := range softer {
			softer[i].Soft = x.Step%7 == 2 && r.IntN(2) == 0
		}
		melodies = append(melodies, softer)
	}
	return melodies
}

func TestP65FormulasRead(t *testing.T) {
	r := rand.New(rand.NewPCG(65, 1))
	read, softer := 0, 0
	for _, list := range someFormulas() {
		for _, m := range formulaMelodies(r, list) {
			all := readingsOf(list, stepsOf(m))
			if len(all) == 0 {
				checkNotRead(t, list, m)
				continue
			}
			reading, ok := impl.FormulasRead(list, m)
			if !ok || !slices.Equal(reading, bestOf(list, all)) {
				t.Errorf("FormulasRead(%s, %s) = %v, %v; want %v", textOfFormulas(list), textOf(m), reading, ok, bestOf(list, all))
			}
			if len(m) == 0 {
				continue
			}
			read++
			sung, ok := impl.FormulasMelody(list, reading, m[0])
			soft := slices.ContainsFunc(m[1:], func(x impl.Tone) bool { return x.Soft })
			if soft {
				softer++
			}
			if !ok || slices.Equal(sung, m) == soft {
				t.Errorf("FormulasRead(%s, %s) = %v, which is the melody %v, %v", textOfFormulas(list), textOf(m), reading, sung, ok)
			}
			checkReadMoved(t, list, m, reading)
		}
	}
	if read < 2000 || softer < 200 {
		t.Errorf("just %d melodies were read, %d of them with Soft tones", read, softer)
	}
}

func checkReadMoved(t *testing.T, list []impl.Formula, m []impl.Tone, reading []int) {
	t.Helper()
	for _, k := range []int{-7, 7} {
		moved, ok := impl.MelodyMove(m, k)
		if !ok {
			continue
		}
		if again, ok := impl.FormulasRead(list, moved); !ok || !slices.Equal(again, reading) {
			t.Errorf("FormulasRead(%s, %s) = %v; moved by %d it is %v, %v", textOfFormulas(list), textOf(m), reading, k, again, ok)
		}
	}
}

func TestP65FormulasReadEdges(t *testing.T) {
	for _, c := range []struct {
		list, m, reading string
		ok               bool
	}{
		{"", "", "", true}, {"", "D0", "", true}, {"", "D0 E0", "", false}, {"1:1", "", "", true}, {"1:1", "b1", "", true}, {"1:1", "D0 E0", "0", true}, {"1:1", "E0 D0", "", false}, {"1:1", "D0 F0", "", false}, {"1:1", "D0 D0", "", false},
		{"1:2,1 1:3,-1:1", "D0 E0 F0 G1 F0", "0 1 2", true}, {"1:2,1 1:3,-1:1", "A1 b1 C1 D1 C1", "0 1 2", true}, {"1:2,1 1:3,-1:1", "A1 B1 C1 D1 C1", "0 1 2", true}, {"1:2,1 1:3,-1:1", "D0 E0 F0 G1 E0", "", false},
		{"0:1", "b1 B1", "0", true}, {"0:1", "B1 b1", "0", true}, {"0:1", "B1 B1 b1", "0 0", true}, {"7:1", "b0 B1 b2", "0 0", true}, {"7:1,-7:1", "G0 G1 G2 G1", "0 0 1", true}, {"1:1", "G0 F2", "", false},
	} {
		reading, ok := impl.FormulasRead(formulasOf(t, c.list), tonesOf(t, c.m))
		if ok != c.ok || textOfNumbers(reading) != c.reading {
			t.Errorf("FormulasRead(%s, %s) = %v, %v; want %s, %v", c.list, c.m, reading, ok, c.reading, c.ok)
		}
	}
	if reading, ok := impl.FormulasRead(formulasOf(t, "0:1"), repeated(t, "D0", 24)); !ok || !slices.Equal(reading, make([]int, 23)) {
		t.Errorf("FormulasRead of 24 tones = %v, %v", reading, ok)
	}
}

func TestP65NoMelodies(t *testing.T) {
	for _, text := range []string{"", "1:1", "0:1,2:1,-2:1,1:1,3:1,-1:1"} {
		for _, m := range noMelodies(t) {
			checkNotRead(t, formulasOf(t, text), m)
		}
		for _, bad := range badTones() {
			checkNotRead(t, formulasOf(t, text), []impl.Tone{bad})
		}
	}
}

func TestP66FormulasWithout(t *testing.T) {
	for _, c := range formulaCases() {
		for k := range c.list {
			others, ok := impl.FormulasWithout(c.list, k)
			want := slices.Delete(slices.Clone(c.list), k, k+1)
			if !ok || len(others) != len(c.list)-1 || textOfFormulas(others) != textOfFormulas(want) || !impl.FormulasValid(others) {
				t.Errorf("FormulasWithout(%s, %d) = %s, %v", textOfFormulas(c.list), k, textOfFormulas(others), ok)
			}
			if few, all := impl.FormulasMany(others, c.steps), impl.FormulasMany(c.list, c.steps); few < 0 || few > all {
				t.Errorf("%v has %d readings by %s, and %d by %s", c.steps, few, textOfFormulas(others), all, textOfFormulas(c.list))
			}
		}
	}
}

func TestP66FewerReadings(t *testing.T) {
	r := rand.New(rand.NewPCG(66, 1))
	for _, list := range someFormulas() {
		for k := range list {
			others, _ := impl.FormulasWithout(list, k)
			for range 5 {
				steps, ok := impl.FormulasBuild(others, drawnReading(r, others, 12))
				if few, all := impl.FormulasMany(others, steps), impl.FormulasMany(list, steps); !ok || few < 1 || few > all {
					t.Errorf("%v has %d readings by %s, and %d by %s", steps, few, textOfFormulas(others), all, textOfFormulas(list))
				}
			}
		}
	}
}

func TestP66InvalidIndexes(t *testing.T) {
	for _, text := range []string{"", "1:2", "1:2,1 1:3,-1:1", "1:1,2:1,3:1,4:1,5:1,6:1,7:1,0:1"} {
		list := formulasOf(t, text)
		for _, k := range append(outOf(len(list)-1), farNumbers...) {
			if others, ok := impl.FormulasWithout(list, k); ok || len(others) > 0 {
				t.Errorf("FormulasWithout(%s, %d) = %v, %v", text, k, others, ok)
			}
		}
	}
}

func TestFormulaResultsAreNewMemory(t *testing.T) {
	list := spareFormulas(formulasOf(t, "1:2,1 1:3,-1:1,2 2:4"))
	steps, reading := spare([]int{1, 1, 1, -1}), spare([]int{0, 1, 2})
	m := spare(tonesOf(t, "D0 E0 F0 G1 F0"))
	for what, call := range map[string]func() []int{
		"FormulasBuild":  func() []int { got, _ := impl.FormulasBuild(list, reading); return got },
		"of one formula": func() []int { got, _ := impl.FormulasBuild(list, reading[1:2]); return got },
		"FormulasBest":   func() []int { got, _ := impl.FormulasBest(list, steps); return got },
		"FormulasFirst":  func() []int { return impl.FormulasFirst(list, steps) },
		"FormulasUsed":   func() []int { return impl.FormulasUsed(list, steps) },
		"FormulasRead":   func() []int { got, _ := impl.FormulasRead(list, m); return got },
	} {
		was := wholeFormulas(list)
		for _, argument := range [][]int{call(), steps, reading} {
			checkApart(t, what, call(), argument, -9)
		}
		if wholeFormulas(list) != was || len(call()) == 0 {
			t.Errorf("a result of %s shares memory with the formulas, or is empty", what)
		}
	}
	sung := func() []impl.Tone { got, _ := impl.FormulasMelody(list, reading, m[0]); return got }
	checkApart(t, "FormulasMelody", sung(), sung(), noTone)
	checkWithoutApart(t, list)
}

// checkWithoutApart changes the Steps of each formula of a result, and then its formulas; all other memory must stay.
func checkWithoutApart(t *testing.T, list []impl.Formula) {
	t.Helper()
	again, _ := impl.FormulasWithout(list, 1)
	was, wasAgain := wholeFormulas(list), wholeFormulas(again)
	others, _ := impl.FormulasWithout(list, 1)
	for i := range others {
		rest := slices.Concat(others[:i], others[i+1:])
		wasRest := wholeFormulas(slices.Clip(rest))
		room := others[i].Steps[:cap(others[i].Steps)]
		for k := range room {
			room[k] = -9
		}
		if wholeFormulas(slices.Clip(rest)) != wasRest {
			t.Errorf("two formulas of a result of FormulasWithout share memory")
		}
	}
	others = others[:cap(others)]
	for i := range others {
		others[i] = impl.Formula{Weight: -9}
	}
	if wholeFormulas(list) != was || wholeFormulas(again) != wasAgain {
		t.Errorf("a result of FormulasWithout shares memory with other formulas")
	}
}

func TestFormulaArgumentsStay(t *testing.T) {
	r := rand.New(rand.NewPCG(66, 2))
	for _, formulas := range someFormulas() {
		list := spareFormulas(formulas)
		reading := spare(drawnReading(r, formulas, 9))
		steps := spare(builtOf(formulas, reading))
		m := spare(drawn(r, allTones(), 3))
		was, wasM := wholeFormulas(list), slices.Clone(m)
		wasReading, wasSteps := slices.Clone(reading[:cap(reading)]), slices.Clone(steps[:cap(steps)])
		impl.FormulasValid(list)
		impl.FormulasBuild(list, reading)
		impl.FormulasMany(list, steps)
		impl.FormulasBest(list, steps)
		impl.FormulasWeight(list, reading)
		impl.FormulasFew(list, steps)
		impl.FormulasFirst(list, steps)
		impl.FormulasUsed(list, steps)
		impl.FormulasClear(list, 4)
		impl.FormulasMelody(list, reading, m[0])
		impl.FormulasRead(list, m)
		impl.FormulasWithout(list, 0)
		if wholeFormulas(list) != was || !slices.Equal(m, wasM) || !slices.Equal(reading[:cap(reading)], wasReading) || !slices.Equal(steps[:cap(steps)], wasSteps) {
			t.Errorf("the arguments have become %v, %v, %v and %v", list, reading, steps, m)
		}
	}
}
