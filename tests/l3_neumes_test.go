package tests

import (
	"strings"
	"testing"

	"loop.example/neumes/impl"
)

func TestP30NeumeName(t *testing.T) {
	seen := map[string]string{}
	for _, s := range contoursUpTo(3) {
		name := impl.NeumeName(s)
		if name != neumeOf(s) {
			t.Errorf("NeumeName(%q) = %q", s, name)
		}
		if other, ok := seen[name]; ok {
			t.Errorf("NeumeName(%q) = %q = NeumeName(%q)", s, name, other)
		}
		seen[name] = s
		if contour, ok := impl.NeumeContour(name); !ok || contour != s {
			t.Errorf("NeumeContour(%q) = %q, %v; want %q", name, contour, ok, s)
		}
		turned, _ := impl.ContourTurn(s)
		back, _ := impl.ContourBack(s)
		for _, other := range []string{turned, back} {
			if other != s && impl.NeumeName(other) == name {
				t.Errorf("NeumeName(%q) = %q, which is that of %q, too", s, name, other)
			}
		}
	}
}

func TestP30NeumeNameEdges(t *testing.T) {
	for _, c := range []struct{ s, want string }{
		{"", "punctum"}, {"u", "pes"}, {"d", "clivis"}, {"s", "group-s"}, {"ud", "torculus"}, {"du", "porrectus"}, {"uu", "scandicus"}, {"dd", "climacus"},
		{"us", "group-us"}, {"su", "group-su"}, {"ss", "group-ss"}, {"uuu", "group-uuu"}, {"ddd", "group-ddd"}, {"udu", "group-udu"}, {"sss", "group-sss"},
		{"uuuu", ""}, {"ssss", ""}, {"udud", ""}, {strings.Repeat("u", 23), ""}, {strings.Repeat("u", 24), ""}, {"pes", ""}, {"U", ""}, {"u ", ""},
	} {
		if name := impl.NeumeName(c.s); name != c.want {
			t.Errorf("NeumeName(%q) = %q; want %q", c.s, name, c.want)
		}
	}
}

func TestP30NoNeume(t *testing.T) {
	for _, s := range append(append(noContours(), contoursOf(4)...), longContours()...) {
		if name := impl.NeumeName(s); name != "" {
			t.Errorf("NeumeName(%q) = %q", s, name)
		}
	}
}

// checkNeumeContour compares NeumeContour of any text with the names of all neumes.
func checkNeumeContour(t *testing.T, name string) {
	t.Helper()
	want, is := "", false
	for _, s := range contoursUpTo(3) {
		if neumeOf(s) == name {
			want, is = s, true
		}
	}
	contour, ok := impl.NeumeContour(name)
	if ok != is || contour != want {
		t.Errorf("NeumeContour(%q) = %q, %v; want %q, %v", name, contour, ok, want, is)
	}
	if ok && (impl.NeumeName(contour) != name || !impl.ContourValid(contour) || len(contour) > 3) {
		t.Errorf("NeumeContour(%q) = %q, NeumeName of it is %q", name, contour, impl.NeumeName(contour))
	}
}

func TestP31NeumeContourOfNames(t *testing.T) {
	for _, s := range contoursUpTo(3) {
		name := neumeOf(s)
		checkNeumeContour(t, name)
		checkNeumeContour(t, strings.ToUpper(name[:1])+name[1:])
		checkNeumeContour(t, strings.ToUpper(name))
		checkNeumeContour(t, "group-"+name)
		for i := range len(name) + 1 {
			for _, other := range []string{"u", "d", "s", " ", "-", "x", "\x00", "\n", "\xff"} {
				checkNeumeContour(t, name[:i]+other+name[i:])
				if i < len(name) {
					checkNeumeContour(t, name[:i]+other+name[i+1:])
				}
			}
			checkNeumeContour(t, name[:i])
			checkNeumeContour(t, name[i:])
		}
	}
}

func TestP31NeumeContourOfOtherTexts(t *testing.T) {
	for _, name := range []string{
		"", " ", "u", "ud", "group", "group-", "group-u", "group-d", "group-ud", "group-du", "group-uu", "group-dd", "Group-us", "group_us", "group us", "group--us", "group-US",
		"Punctum", "Pes", "PES", "pess", "pe", "pes ", " pes", "pes clivis", "pespes", "group-uuuu", "group-ssss", "group-s-s", "groups", "-us", "us", "group-group-us", "group-punctum", "virga",
	} {
		if contour, ok := impl.NeumeContour(name); ok || contour != "" {
			t.Errorf("NeumeContour(%q) = %q, %v", name, contour, ok)
		}
	}
	for _, s := range append(append(contoursUpTo(5), longContours()...), noContours()...) {
		checkNeumeContour(t, s)
		checkNeumeContour(t, "group-"+s)
	}
	checkNeumeContour(t, strings.Repeat("group-", 1000))
}

func TestP31MelodyOfANeume(t *testing.T) {
	for _, s := range contoursUpTo(3) {
		contour, _ := impl.NeumeContour(neumeOf(s))
		steps, ok := impl.ContourLeast(contour)
		m := []impl.Tone{}
		for _, step := range steps {
			m = append(m, impl.Tone{Step: 3 + step})
		}
		groups := []impl.Melisma{{Size: len(m)}}
		if names := impl.GroupsNames(m, groups); !ok || names != neumeOf(s) || impl.ContourOf(m) != s {
			t.Errorf("the melody %s of the neume %q has the name %q", textOf(m), neumeOf(s), names)
		}
		groups[0].Liquid = true
		if names := impl.GroupsNames(m, groups); names[:1] != strings.ToUpper(neumeOf(s)[:1]) || names[1:] != neumeOf(s)[1:] {
			t.Errorf("the melody %s of the neume %q has the Liquid name %q", textOf(m), neumeOf(s), names)
		}
	}
}
