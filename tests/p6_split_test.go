package tests

import (
	"slices"
	"strings"
	"testing"

	"loop.example/twist/impl"
)

// parting gives the matches at which a text is split: those over nothing at place 0 and at the end are left out.
func parting(pattern, text string) []impl.Match {
	return slices.DeleteFunc(impl.All(pattern, text), func(m impl.Match) bool {
		return m.From == m.To && (m.From == 0 || m.To == len(text))
	})
}

// checkSplit puts back what lay between, and checks that each text lies between just these two matches.
func checkSplit(t *testing.T, pattern, text string) {
	t.Helper()
	got := impl.Split(pattern, text)
	cuts := parting(pattern, text)
	if len(got) != len(cuts)+1 {
		t.Fatalf("%q in %q: %q is not parted at %v", pattern, text, got, cuts)
	}
	whole := got[0]
	for i, m := range cuts {
		if len(whole) != m.From {
			t.Fatalf("%q in %q: %q is not parted at %v", pattern, text, got, m)
		}
		whole += text[m.From:m.To] + got[i+1]
	}
	if whole != text {
		t.Fatalf("%q in %q: %q put back is %q", pattern, text, got, whole)
	}
}

func TestSplit(t *testing.T) {
	for _, c := range []struct {
		pattern, text string
		want          []string
	}{
		{",", "a,b,,c", []string{"a", "b", "", "c"}},
		{",", ",a,", []string{"", "a", ""}},
		{",", ",", []string{"", ""}},
		{",", ",,", []string{"", "", ""}},
		{",+", ",,a,,,b", []string{"", "a", "b"}},
		{"\\s*,\\s*", "a , b,c\t,\n d", []string{"a", "b", "c", "d"}},
		{"aa", "aaaaa", []string{"", "", "a"}},
		{"(a)(b)?", "xabya", []string{"x", "y", ""}},
		{"[\\x80-\\xff]", "a\xffb\x80", []string{"a", "b", ""}},
		{"^a", "aaa", []string{"", "aa"}},
		{"a$", "aaa", []string{"aa", ""}},
		{"^.*$", "abc", []string{"", ""}},
		{"abc", "abc", []string{"", ""}},
	} {
		mustSplit(t, c.pattern, c.text, c.want...)
	}
}

func mustSplit(t *testing.T, pattern, text string, want ...string) {
	t.Helper()
	if got := impl.Split(pattern, text); !slices.Equal(got, want) {
		t.Errorf("%q in %q: got %q, want %q", pattern, text, got, want)
	}
}

// Over nothing a match parts the text between two bytes, and directly behind another match, but not at the ends.
func TestSplitOverNothing(t *testing.T) {
	for _, c := range []struct {
		pattern, text string
		want          []string
	}{
		{"", "abc", []string{"a", "b", "c"}},
		{"", "a", []string{"a"}},
		{"", "", []string{""}},
		{"x*", "", []string{""}},
		{"x*", "axb", []string{"a", "", "b"}},
		{"x*", "xab", []string{"", "", "a", "b"}},
		{"x*", "abx", []string{"a", "b", ""}},
		{"x*", "x", []string{"", ""}},
		{"x*", "xx", []string{"", ""}},
		{"x*?", "xx", []string{"x", "x"}},
		{"x?", "xx", []string{"", "", ""}},
		{"x|", "axxb", []string{"a", "", "", "b"}},
		{"|x", "axb", []string{"a", "x", "b"}},
		{"^", "abc", []string{"abc"}},
		{"$", "abc", []string{"abc"}},
		{"^|$", "abc", []string{"abc"}},
		{"^|$", "", []string{""}},
		{"^|b|$", "abc", []string{"a", "c"}},
		{"^a|$", "aa", []string{"", "a"}},
		{"^|a$", "aa", []string{"a", ""}},
	} {
		mustSplit(t, c.pattern, c.text, c.want...)
	}
}

func TestSplitByWhatIsNotThere(t *testing.T) {
	for _, text := range []string{"", "a", "abc", "\x00\xff\n", strings.Repeat("a", impl.MaxText)} {
		for _, pattern := range []string{"x", "[^\\x00-\\xff]", "x+|y", "a^", "$a", "(x){3}"} {
			mustSplit(t, pattern, text, text)
		}
	}
}

func TestSplitIsTheTextWhenPutBack(t *testing.T) {
	everyText("ab|()*?^$", 4, func(pattern string) {
		if !impl.ReadPattern(pattern).Ok {
			mustSplit(t, pattern, "aab")
			return
		}
		for _, text := range []string{"", "a", "ba", "aab", "abbaa"} {
			checkSplit(t, pattern, text)
		}
	})
	for seed := range 10000 {
		checkSplit(t, grownPattern(seed+40000, "aabbc.^$"), grownText(seed, "aabbc\n", 12))
	}
	for seed := range 200 {
		checkSplit(t, grownPattern(seed+40000, "aabbc."), grownText(seed, "aaaaabbbc\n", impl.MaxText))
	}
}

// By a text that stands for itself, all is known without a pattern.
func TestSplitByEscape(t *testing.T) {
	everyText("a,", 6, func(text string) {
		everyText("a,", 2, func(by string) {
			want := strings.Split(text, by)
			if text == "" {
				want = []string{""}
			}
			mustSplit(t, impl.Escape(by), text, want...)
		})
	})
	for b := range 256 {
		by := string([]byte{byte(b)})
		text := by + "12" + by + by + "3"
		mustSplit(t, impl.Escape(by), text, strings.Split(text, by)...)
	}
}

func TestSplitOfTheLongestText(t *testing.T) {
	longest := strings.Repeat("ab,c", impl.MaxText/4)
	mustSplit(t, ",", longest, strings.Split(longest, ",")...)
	mustSplit(t, "", longest, strings.Split(longest, "")...)
	mustSplit(t, ".*", longest, "", "")
	for _, pattern := range []string{"", ",", ".*", "x", "^", "$", "["} {
		mustSplit(t, pattern, longest+"a")
		mustSplit(t, pattern, longest+longest)
	}
}

func TestSplitWithoutPattern(t *testing.T) {
	longPattern := strings.Repeat("a", impl.MaxPattern)
	mustSplit(t, longPattern, longPattern+"b", "", "b")
	for _, pattern := range []string{"[", "a**", "(", ")", "a{51}", "a{2,1}", "\\", "[]", longPattern + "a", strings.Repeat("()", impl.MaxGroups+1)} {
		for _, text := range []string{"", "a", "ab,c", strings.Repeat("a", impl.MaxText)} {
			mustSplit(t, pattern, text)
		}
	}
}

func TestSplitIsNewMemory(t *testing.T) {
	first := impl.Split(",", "a,b")
	first[0] = "x"
	_ = append(first[:1], "y")
	mustSplit(t, ",", "a,b", "a", "b")
}

func TestSplitByVeryManyWays(t *testing.T) {
	long := strings.Repeat("a", impl.MaxText)
	for _, pattern := range manyWays() {
		orNothing := withNoEnd(pattern) + "|"
		mustRead(t, orNothing)
		inTime(t, pattern, func() {
			mustSplit(t, orNothing, long, strings.Split(long, "")...)
			mustSplit(t, orNothing, long[1:]+"b", "", "")
		})
	}
}
