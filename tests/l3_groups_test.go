package tests

import (
	"slices"
	"strings"
	"testing"

	"loop.example/neumes/impl"
)

// partsOf are the tones of each group, made without the program's own functions.
func partsOf(g grouped) [][]impl.Tone {
	parts := [][]impl.Tone{}
	first := 0
	for _, one := range g.groups {
		parts = append(parts, g.m[first:first+one.Size])
		first += one.Size
	}
	return parts
}

// groupNamesOf are the names of the groups, made without the program's own functions.
func groupNamesOf(g grouped) []string {
	names := []string{}
	for i, part := range partsOf(g) {
		name := neumeOf(waysBetween(stepListOf(part)))
		if g.groups[i].Liquid {
			name = string(name[0]-'a'+'A') + name[1:]
		}
		names = append(names, name)
	}
	return names
}

func TestP32GroupsNames(t *testing.T) {
	for _, g := range someGrouped(t) {
		if !impl.GroupsValid(g.m, g.groups) {
			t.Errorf("GroupsValid(%s, %v) does not hold", textOf(g.m), g.groups)
		}
		names := impl.GroupsNames(g.m, g.groups)
		if names != strings.Join(groupNamesOf(g), " ") || len(strings.Fields(names)) != len(g.groups) {
			t.Errorf("GroupsNames(%s, %v) = %q", textOf(g.m), g.groups, names)
		}
		if !impl.GroupsRead(g.m, g.groups, names) {
			t.Errorf("GroupsRead(%s, %v) does not hold for %q", textOf(g.m), g.groups, names)
		}
		all := []impl.Tone{}
		for k := range g.groups {
			part, _ := impl.GroupsCut(g.m, g.groups, k)
			all = append(all, part...)
		}
		if !slices.Equal(all, g.m) {
			t.Errorf("GroupsCut of all groups %v of %s = %s", g.groups, textOf(g.m), textOf(all))
		}
	}
}

func TestP32GroupsNamesEdges(t *testing.T) {
	for _, c := range []struct{ m, groups, want string }{
		{"", "", ""}, {"D0", "1", "punctum"}, {"D0", "1L", "Punctum"},
		{"D0 F0 E0 E0", "2L 2", "Pes group-s"}, {"D0 F0 E0 E0", "4", "group-uds"},
		{"D0 F0 E0 E0", "4L", "Group-uds"}, {"D0 F0 E0 E0", "3L 1L", "Torculus Punctum"},
		{"D0 F0 E0 E0", "1 3", "punctum group-ds"}, {"b1 B1", "2L", "Group-s"},
		{"B1 b1 A1", "3", "group-sd"}, {"D0 D0 D0 D0", "4L", "Group-sss"},
		{"F0 E0 D0 F0 D0 F0 D0 E0 F0", "3L 3L 3L", "Climacus Porrectus Scandicus"},
		{"D0 E0 D0 C0", "1 1 2L", "punctum punctum Clivis"},
	} {
		m, groups := tonesOf(t, c.m), groupsOf(c.groups)
		if names := impl.GroupsNames(m, groups); names != c.want || !impl.GroupsRead(m, groups, c.want) || !impl.GroupsValid(m, groups) {
			t.Errorf("GroupsNames(%s, %s) = %q; want %q", c.m, c.groups, names, c.want)
		}
	}
	if !impl.GroupsValid(nil, nil) || !impl.GroupsRead([]impl.Tone{}, []impl.Melisma{}, "") || impl.GroupsRead(nil, nil, "punctum") {
		t.Errorf("no groups are not those of the empty melody, or have another text")
	}
}

// checkNoGroups is for lists for which GroupsValid does not hold.
func checkNoGroups(t *testing.T, m []impl.Tone, groups []impl.Melisma) {
	t.Helper()
	names := impl.GroupsNames(m, groups)
	if impl.GroupsValid(m, groups) || names != "" || impl.GroupsRead(m, groups, "") || impl.GroupsRead(m, groups, "punctum") {
		t.Errorf("GroupsValid or GroupsRead(%v, %v) holds, or GroupsNames is %q", m, groups, names)
	}
	for _, k := range []int{0, 1, len(groups) - 1, len(groups), -1} {
		if part, ok := impl.GroupsCut(m, groups, k); ok || len(part) != 0 {
			t.Errorf("GroupsCut(%v, %v, %d) = %v, %v", m, groups, k, part, ok)
		}
		if joined, ok := impl.GroupsJoin(m, groups, k); ok || len(joined) != 0 {
			t.Errorf("GroupsJoin(%v, %v, %d) = %v, %v", m, groups, k, joined, ok)
		}
		for _, n := range []int{1, 2, 0} {
			if split, ok := impl.GroupsSplit(m, groups, k, n); ok || len(split) != 0 {
				t.Errorf("GroupsSplit(%v, %v, %d, %d) = %v, %v", m, groups, k, n, split, ok)
			}
		}
	}
}

func TestP32OtherSizes(t *testing.T) {
	for _, text := range []string{"", "D0", "D0 F0", "D0 F0 E0 E0", "D0 F0 E0 E0 C0", "D0 F0 G1 A1 b1 A1 G1 F0"} {
		m := tonesOf(t, text)
		for _, bad := range badGroups(len(m)) {
			checkNoGroups(t, m, bad)
		}
	}
	full := repeated(t, "D0 F0", 12)
	for _, bad := range badGroups(24) {
		checkNoGroups(t, full, bad)
	}
	checkNoGroups(t, full, slices.Repeat([]impl.Melisma{{Size: 4}}, 7))
	checkNoGroups(t, full, slices.Repeat([]impl.Melisma{{Size: 4}}, 5))
}

func TestP32GroupsOfNoMelody(t *testing.T) {
	for _, m := range noMelodies(t) {
		checkNoGroups(t, m, nil)
		checkNoGroups(t, m, slices.Repeat([]impl.Melisma{{Size: 1}}, len(m)))
		checkNoGroups(t, m, slices.Repeat([]impl.Melisma{{Size: 1, Liquid: true}}, len(m)))
		fours := slices.Repeat([]impl.Melisma{{Size: 4}}, len(m)/4)
		if len(m)%4 > 0 {
			fours = append(fours, impl.Melisma{Size: len(m) % 4})
		}
		checkNoGroups(t, m, fours)
	}
}

func TestP33GroupsCut(t *testing.T) {
	for _, g := range someGrouped(t) {
		parts := partsOf(g)
		words := strings.Split(impl.GroupsNames(g.m, g.groups), " ")
		for k, one := range g.groups {
			part, ok := impl.GroupsCut(g.m, g.groups, k)
			if !ok || !slices.Equal(part, parts[k]) {
				t.Errorf("GroupsCut(%s, %v, %d) = %v, %v", textOf(g.m), g.groups, k, part, ok)
			}
			name := impl.NeumeName(impl.ContourOf(part))
			if one.Liquid && name != "" {
				name = strings.ToUpper(name[:1]) + name[1:]
			}
			if k >= len(words) || words[k] != name || name == "" {
				t.Errorf("the group %d of %v of %s is %q; the names are %q", k, g.groups, textOf(g.m), name, words)
			}
		}
		for _, k := range outOf(len(g.groups) - 1) {
			if part, ok := impl.GroupsCut(g.m, g.groups, k); ok || len(part) != 0 {
				t.Errorf("GroupsCut(%s, %v, %d) = %v, %v", textOf(g.m), g.groups, k, part, ok)
			}
		}
	}
}

// joinedOf are the groups with two of them as one, made without the program's own functions.
func joinedOf(groups []impl.Melisma, k int) ([]impl.Melisma, bool) {
	if k < 0 || k > len(groups)-2 || groups[k].Size+groups[k+1].Size > 4 {
		return nil, false
	}
	list := []impl.Melisma{}
	for i, one := range groups {
		switch i {
		case k:
		case k + 1:
			list = append(list, impl.Melisma{Size: groups[k].Size + one.Size, Liquid: one.Liquid})
		default:
			list = append(list, one)
		}
	}
	return list, true
}

func TestP34GroupsJoin(t *testing.T) {
	succeeded := 0
	for _, g := range someGrouped(t) {
		for k := -2; k <= len(g.groups)+2; k++ {
			joined, ok := impl.GroupsJoin(g.m, g.groups, k)
			if want, is := joinedOf(g.groups, k); ok != is || !slices.Equal(joined, want) {
				t.Errorf("GroupsJoin(%s, %v, %d) = %v, %v; want %v, %v", textOf(g.m), g.groups, k, joined, ok, want, is)
			}
			if !ok {
				continue
			}
			succeeded++
			want := slices.Clone(g.groups)
			want[k].Liquid = false
			if split, ok := impl.GroupsSplit(g.m, joined, k, g.groups[k].Size); !ok || !slices.Equal(split, want) {
				t.Errorf("GroupsJoin(%s, %v, %d) = %v; split it is %v, %v", textOf(g.m), g.groups, k, joined, split, ok)
			}
			all := []impl.Tone{}
			for i := range joined {
				part, _ := impl.GroupsCut(g.m, joined, i)
				all = append(all, part...)
			}
			if !slices.Equal(all, g.m) || !impl.GroupsValid(g.m, joined) {
				t.Errorf("GroupsJoin(%s, %v, %d) = %v has the tones %s", textOf(g.m), g.groups, k, joined, textOf(all))
			}
		}
	}
	if succeeded < 500 {
		t.Errorf("only %d groups were joined", succeeded)
	}
}

func TestP34GroupsJoinEdges(t *testing.T) {
	m := tonesOf(t, "D0 F0 E0 E0 C0")
	for _, c := range []struct {
		groups string
		k      int
		want   string
	}{
		{"2L 2 1L", 0, "4 1L"},
		{"2 2L 1", 0, "4L 1"},
		{"2L 2L 1", 1, "2L 3"},
		{"1L 3L 1L", 1, "1L 4L"},
		{"1 4", 0, ""}, {"4 1", 0, ""}, {"2 3", 0, ""},
		{"4 1", 1, ""}, {"4 1", 2, ""}, {"1 3 1", -1, ""},
	} {
		if joined, ok := impl.GroupsJoin(m, groupsOf(c.groups), c.k); ok != (c.want != "") || !slices.Equal(joined, groupsOf(c.want)) {
			t.Errorf("GroupsJoin(%s, %d) = %v, %v; want %q", c.groups, c.k, joined, ok, c.want)
		}
	}
	for _, k := range outOf(1) {
		if joined, ok := impl.GroupsJoin(m, groupsOf("2L 2 1L"), k); ok || len(joined) != 0 {
			t.Errorf("GroupsJoin at %d = %v, %v", k, joined, ok)
		}
	}
	for _, k := range []int{-1, 0, 1} {
		if joined, ok := impl.GroupsJoin(nil, nil, k); ok || len(joined) != 0 {
			t.Errorf("GroupsJoin of no groups at %d = %v, %v", k, joined, ok)
		}
	}
}

// splitOf are the groups with one of them in two parts, made without the program's own functions.
func splitOf(groups []impl.Melisma, i, k int) ([]impl.Melisma, bool) {
	if i < 0 || i >= len(groups) || k <= 0 || k >= groups[i].Size {
		return nil, false
	}
	list := []impl.Melisma{}
	for at, one := range groups {
		if at == i {
			list = append(list, impl.Melisma{Size: k})
			one.Size -= k
		}
		list = append(list, one)
	}
	return list, true
}

func checkSplit(t *testing.T, g grouped, i, k int, split []impl.Melisma) {
	t.Helper()
	if joined, ok := impl.GroupsJoin(g.m, split, i); !ok || !slices.Equal(joined, g.groups) || len(split) != len(g.groups)+1 {
		t.Errorf("GroupsSplit(%s, %v, %d, %d) = %v; joined it is %v, %v", textOf(g.m), g.groups, i, k, split, joined, ok)
	}
	whole, _ := impl.GroupsCut(g.m, g.groups, i)
	first, _ := impl.GroupsCut(g.m, split, i)
	second, _ := impl.GroupsCut(g.m, split, i+1)
	if len(first) != k || len(second) == 0 {
		t.Errorf("GroupsSplit(%s, %v, %d, %d) = %v", textOf(g.m), g.groups, i, k, split)
		return
	}
	between := []impl.Tone{first[k-1], second[0]}
	if s := impl.ContourOf(whole); s != impl.ContourOf(first)+impl.ContourOf(between)+impl.ContourOf(second) {
		t.Errorf("GroupsSplit(%s, %v, %d, %d): the contour of the group is %q, the parts are %s and %s", textOf(g.m), g.groups, i, k, s, textOf(first), textOf(second))
	}
}

func TestP35GroupsSplit(t *testing.T) {
	succeeded := 0
	for _, g := range someGrouped(t) {
		for i := -2; i <= len(g.groups)+1; i++ {
			for k := -1; k <= 5; k++ {
				split, ok := impl.GroupsSplit(g.m, g.groups, i, k)
				if want, is := splitOf(g.groups, i, k); ok != is || !slices.Equal(split, want) {
					t.Errorf("GroupsSplit(%s, %v, %d, %d) = %v, %v; want %v, %v", textOf(g.m), g.groups, i, k, split, ok, want, is)
				}
				if ok {
					succeeded++
					checkSplit(t, g, i, k, split)
				}
			}
		}
	}
	if succeeded < 1000 {
		t.Errorf("only %d groups were split", succeeded)
	}
}

func TestP35GroupsSplitEdges(t *testing.T) {
	m := tonesOf(t, "D0 F0 E0 E0 C0")
	groups := groupsOf("4L 1L")
	for _, c := range []struct {
		i, k int
		want string
	}{
		{0, 1, "1 3L 1L"}, {0, 2, "2 2L 1L"}, {0, 3, "3 1L 1L"},
		{0, 0, ""}, {0, 4, ""}, {0, -1, ""}, {0, 5, ""}, {1, 0, ""}, {1, 1, ""}, {2, 1, ""}, {-1, 1, ""}, {-1, 0, ""},
	} {
		if split, ok := impl.GroupsSplit(m, groups, c.i, c.k); ok != (c.want != "") || !slices.Equal(split, groupsOf(c.want)) {
			t.Errorf("GroupsSplit(%v, %d, %d) = %v, %v; want %q", groups, c.i, c.k, split, ok, c.want)
		}
	}
	for _, far := range outOf(4) {
		for _, near := range []int{0, 1, 2, far} {
			if split, ok := impl.GroupsSplit(m, groups, far, near); ok || len(split) != 0 {
				t.Errorf("GroupsSplit(%v, %d, %d) = %v, %v", groups, far, near, split, ok)
			}
			if split, ok := impl.GroupsSplit(m, groups, near, far); ok || len(split) != 0 {
				t.Errorf("GroupsSplit(%v, %d, %d) = %v, %v", groups, near, far, split, ok)
			}
		}
	}
}

func TestP36GroupsMany(t *testing.T) {
	for n := range 25 {
		many := impl.GroupsMany(n)
		if n <= 12 && many != len(sizesOf(n)) {
			t.Errorf("GroupsMany(%d) = %d; want %d", n, many, len(sizesOf(n)))
		}
		sum := 0
		for size := 1; size <= min(4, n); size++ {
			sum += impl.GroupsMany(n - size)
		}
		if n > 0 && many != sum {
			t.Errorf("GroupsMany(%d) = %d; the sum of those of fewer tones is %d", n, many, sum)
		}
	}
	for n, want := range []int{1, 1, 2, 4, 8, 15, 29, 56} {
		if many := impl.GroupsMany(n); many != want {
			t.Errorf("GroupsMany(%d) = %d; want %d", n, many, want)
		}
	}
	if many := impl.GroupsMany(24); many != 3919944 {
		t.Errorf("GroupsMany(24) = %d", many)
	}
}

func TestP36GroupsManyInvalid(t *testing.T) {
	for _, n := range outOf(24) {
		if many := impl.GroupsMany(n); many != -1 {
			t.Errorf("GroupsMany(%d) = %d", n, many)
		}
	}
}

// otherTexts are texts near one of names, which are all different from it.
func otherTexts(names string) []string {
	list := []string{names + " ", " " + names, names + " punctum", names + " Pes", "punctum " + names, names + "\n", names + "s", strings.ReplaceAll(names, " ", "  "), strings.ToUpper(names), strings.ToLower(names)}
	for i := range len(names) {
		list = append(list, names[:i], names[i+1:], names[:i]+"x"+names[i+1:])
	}
	return slices.DeleteFunc(list, func(s string) bool { return s == names })
}

func TestP37GroupsRead(t *testing.T) {
	for _, g := range someGrouped(t) {
		names := impl.GroupsNames(g.m, g.groups)
		if !impl.GroupsRead(g.m, g.groups, names) {
			t.Errorf("GroupsRead(%s, %v, %q) does not hold", textOf(g.m), g.groups, names)
		}
		for _, text := range otherTexts(names) {
			if impl.GroupsRead(g.m, g.groups, text) {
				t.Errorf("GroupsRead(%s, %v, %q) holds", textOf(g.m), g.groups, text)
			}
		}
		for k := range g.groups {
			other := slices.Clone(g.groups)
			other[k].Liquid = !other[k].Liquid
			if impl.GroupsNames(g.m, other) == names || impl.GroupsRead(g.m, other, names) {
				t.Errorf("GroupsRead(%s, %v, %q) holds", textOf(g.m), other, names)
			}
		}
	}
}

func TestGroupsResultsAreNewMemory(t *testing.T) {
	m, groups := tonesOf(t, "D0 F0 E0 E0 C0"), groupsOf("2L 1 2L")
	bad := impl.Melisma{Size: -9, Liquid: true}
	for k := range groups {
		a, b := spare(m), spare(groups)
		part, _ := impl.GroupsCut(a, b, k)
		checkApart(t, "GroupsCut", part, a, noTone)
		joined, _ := impl.GroupsJoin(a, b, k)
		checkApart(t, "GroupsJoin", joined, b, bad)
		split, _ := impl.GroupsSplit(a, b, k, 1)
		checkApart(t, "GroupsSplit", split, b, bad)
	}
	one, _ := impl.GroupsCut(m, groups, 0)
	two, _ := impl.GroupsCut(m, groups, 0)
	checkApart(t, "GroupsCut", one, two, noTone)
}

func TestGroupsArgumentsStay(t *testing.T) {
	for _, g := range someGrouped(t) {
		m, groups := spare(g.m), spare(g.groups)
		impl.ContourOf(m)
		impl.GroupsNames(m, groups)
		impl.GroupsRead(m, groups, "pes")
		for k := range groups {
			impl.GroupsCut(m, groups, k)
			impl.GroupsJoin(m, groups, k)
			impl.GroupsSplit(m, groups, k, 1)
		}
		if !slices.Equal(m, g.m) || !slices.Equal(groups, g.groups) || m[:cap(m)][len(m)] != (impl.Tone{}) || groups[:cap(groups)][len(groups)] != (impl.Melisma{}) {
			t.Errorf("the arguments %s, %v have become %v, %v", textOf(g.m), g.groups, m, groups)
		}
	}
}
