package tests

import (
	"strings"
	"testing"

	"loop.example/twist/impl"
)

// found is a match, and the spans of its groups, two numbers each.
func found(from, to int, groups ...int) impl.Match {
	m := at(to, groups...)
	m.From = from
	return m
}

// finder is what All takes a match from: Find, or one that stands in for it.
type finder func(from int) impl.Match

// oneBehindTheOther goes through the matches by the words of the document's chapter 3.
func oneBehindTheOther(find finder) []impl.Match {
	var out []impl.Match
	from := 0
	for {
		m := find(from)
		if !m.Ok {
			return out
		}
		out = append(out, m)
		from = m.To
		if m.From == m.To {
			from++
		}
	}
}

// checkAll compares All with Find, one behind the other, and Count with All.
func checkAll(t *testing.T, pattern, text string) {
	t.Helper()
	want := oneBehindTheOther(func(from int) impl.Match { return impl.Find(pattern, text, from) })
	if got := impl.All(pattern, text); !sameMatches(got, want) {
		t.Fatalf("%q in %q: got %v, want %v", pattern, text, got, want)
	}
	if got := impl.Count(pattern, text); got != len(want) {
		t.Fatalf("%q in %q: counts %d of %d", pattern, text, got, len(want))
	}
}

func TestAll(t *testing.T) {
	for _, c := range []struct {
		pattern, text string
		want          []impl.Match
	}{
		{"b", "abba", []impl.Match{found(1, 2), found(2, 3)}},
		{"b+", "abbab", []impl.Match{found(1, 3), found(4, 5)}},
		{"b+?", "abbab", []impl.Match{found(1, 2), found(2, 3), found(4, 5)}},
		{"aa", "aaaaa", []impl.Match{found(0, 2), found(2, 4)}},
		{"aba", "ababababa", []impl.Match{found(0, 3), found(4, 7)}},
		{"a|ab", "abab", []impl.Match{found(0, 1), found(2, 3)}},
		{"(a)|(b)", "abc", []impl.Match{found(0, 1, 0, 1, -1, -1), found(1, 2, -1, -1, 1, 2)}},
		{"(a(b)?)+", "abaacab", []impl.Match{found(0, 4, 3, 4, 1, 2), found(5, 7, 5, 7, 6, 7)}},
		{"(\\w+)=(\\d*)", "a=1,bc=,=2", []impl.Match{found(0, 3, 0, 1, 2, 3), found(4, 7, 4, 6, 7, 7)}},
		{"^a", "aaa", []impl.Match{found(0, 1)}},
		{"a$", "aaa", []impl.Match{found(2, 3)}},
		{"^a|a$", "aaa", []impl.Match{found(0, 1), found(2, 3)}},
		{"^a*$", "aaa", []impl.Match{found(0, 3)}},
		{"\\x00|\\xff", "\x00a\xff\x00", []impl.Match{found(0, 1), found(2, 3), found(3, 4)}},
		{".+", "ab\nc\n\n", []impl.Match{found(0, 2), found(3, 4)}},
		{"c", "abba", nil},
		{"[^\\x00-\\xff]", "abba", nil},
		{"a^", "aa", nil},
		{"$a", "aa", nil},
		{"a", "", nil},
	} {
		checkMatches(t, c.pattern, c.text, c.want)
	}
}

// A match over nothing is told at place 0, at the end, between others and
// directly behind one; behind it, the next place is begun at.
func TestAllOverNothing(t *testing.T) {
	for _, c := range []struct {
		pattern, text string
		want          []impl.Match
	}{
		{"", "", []impl.Match{found(0, 0)}},
		{"", "ab", []impl.Match{found(0, 0), found(1, 1), found(2, 2)}},
		{"a*", "baac", []impl.Match{found(0, 0), found(1, 3), found(3, 3), found(4, 4)}},
		{"a*", "aa", []impl.Match{found(0, 2), found(2, 2)}},
		{"a*?", "aa", []impl.Match{found(0, 0), found(1, 1), found(2, 2)}},
		{"a?", "aab", []impl.Match{found(0, 1), found(1, 2), found(2, 2), found(3, 3)}},
		{"a|", "aba", []impl.Match{found(0, 1), found(1, 1), found(2, 3), found(3, 3)}},
		{"|a", "aa", []impl.Match{found(0, 0), found(1, 1), found(2, 2)}},
		{"(a)|()", "ab", []impl.Match{found(0, 1, 0, 1, -1, -1), found(1, 1, -1, -1, 1, 1), found(2, 2, -1, -1, 2, 2)}},
		{"(a*)(b*)", "ab", []impl.Match{found(0, 2, 0, 1, 1, 2), found(2, 2, 2, 2, 2, 2)}},
		{"(a?){2}", "aaa", []impl.Match{found(0, 2, 1, 2), found(2, 3, 3, 3), found(3, 3, 3, 3)}},
		{"(a*)*", "ba", []impl.Match{found(0, 0, -1, -1), found(1, 2, 1, 2), found(2, 2, -1, -1)}},
		{"^", "ab", []impl.Match{found(0, 0)}},
		{"$", "ab", []impl.Match{found(2, 2)}},
		{"^|$", "ab", []impl.Match{found(0, 0), found(2, 2)}},
		{"^$", "", []impl.Match{found(0, 0)}},
		{"^$", "a", nil},
		{"a$|", "aa", []impl.Match{found(0, 0), found(1, 2), found(2, 2)}},
		{"ab|$", "abab", []impl.Match{found(0, 2), found(2, 4), found(4, 4)}},
		{"^a|", "aa", []impl.Match{found(0, 1), found(1, 1), found(2, 2)}},
	} {
		checkMatches(t, c.pattern, c.text, c.want)
	}
}

func checkMatches(t *testing.T, pattern, text string, want []impl.Match) {
	t.Helper()
	if got := impl.All(pattern, text); !sameMatches(got, want) {
		t.Errorf("%q in %q: got %v, want %v", pattern, text, got, want)
	}
	if got := impl.Count(pattern, text); got != len(want) {
		t.Errorf("%q in %q: counts %d, not %d", pattern, text, got, len(want))
	}
}

func TestAllIsFindOneBehindTheOther(t *testing.T) {
	everyText("ab|()*?^$", 4, func(pattern string) {
		for _, text := range []string{"", "a", "ba", "aab", "abbaa"} {
			checkAll(t, pattern, text)
		}
	})
	for seed := range 10000 {
		checkAll(t, grownPattern(seed, "aabbc.^$"), grownText(seed, "aabbc\n", 12))
	}
	for seed := range 200 {
		checkAll(t, grownPattern(seed, "aabbc."), grownText(seed, "aaaaabbbc\n", impl.MaxText))
	}
}

// Find might be wrong in the same way as All, so both are held against the ways one by one, too.
func TestAllByReference(t *testing.T) {
	checked := 0
	for seed := range 10000 {
		pattern, text := grownPattern(seed+20000, "aabbc.^$"), grownText(seed, "aabbc\n", 12)
		p := mustRead(t, pattern)
		ok := true
		want := oneBehindTheOther(func(from int) impl.Match {
			for place := from; place <= len(text) && ok; place++ {
				var ways []impl.Match
				if ways, ok = referenceWays(p, text, place); ok && len(ways) > 0 {
					return ways[0]
				}
			}
			return impl.Match{}
		})
		if !ok {
			continue
		}
		checked++
		if got := impl.All(pattern, text); !sameMatches(got, want) {
			t.Fatalf("%q in %q: got %v, want %v", pattern, text, got, want)
		}
	}
	if checked < 9000 {
		t.Errorf("only %d were few enough", checked)
	}
}

// What one match has tried must not hide the next one, nor make it another one.
func TestAllBehindMatchesThatTriedMuch(t *testing.T) {
	for _, pattern := range []string{
		"(a|aa){2}b|a", "(a{1,2}?){0,3}b|a?", "(a?){5}c|(a)|b", "(a*)*c|aa|a$", "(a|b)*?c|ab?", "(a{0,3}?){2,3}(b|$)", "(a?b?){2,4}?c|a?",
	} {
		for _, text := range []string{"aaaaaaa", "aaabaaabaab", "abababacab", "aabaacaaabcbab", strings.Repeat("aaab", 12)} {
			checkAll(t, pattern, text)
		}
	}
}

func TestAllOfTheLongestText(t *testing.T) {
	longest := strings.Repeat("a", impl.MaxText)
	for pattern, want := range map[string]int{
		"":        impl.MaxText + 1,
		"a":       impl.MaxText,
		"a*":      2,
		"a{50}":   impl.MaxText / 50,
		"a{49}":   impl.MaxText / 49,
		"a??":     impl.MaxText + 1,
		"b":       0,
		"(a|b)?$": 2,
	} {
		if got := impl.Count(pattern, longest); got != want {
			t.Errorf("%q: counts %d, not %d", pattern, got, want)
		}
		checkAll(t, pattern, longest)
	}
}

func TestAllWithoutPatternOrText(t *testing.T) {
	tooLong := strings.Repeat("a", impl.MaxText+1)
	longPattern := strings.Repeat("a", impl.MaxPattern)
	if impl.Count(longPattern, strings.Repeat("a", impl.MaxText)) != 1 {
		t.Error("the longest pattern is not found")
	}
	for _, c := range [][2]string{
		{"", tooLong}, {"a", tooLong}, {"b", tooLong}, {"^", tooLong}, {"a", tooLong + tooLong},
		{"[", "a"}, {"[", ""}, {"a**", "a"}, {"(", "a"}, {")", ""}, {"a{51}", "a"}, {"\\", "a"}, {"[", tooLong},
		{longPattern + "a", strings.Repeat("a", impl.MaxText)}, {longPattern + "*", ""},
	} {
		checkMatches(t, c[0], c[1], nil)
	}
}

func TestAllIsNewMemory(t *testing.T) {
	pattern, text := "(a)?(b)?", "abcab"
	first, want := impl.All(pattern, text), impl.All(pattern, text)
	for i := range first {
		for j := range first[i].Groups {
			first[i].Groups[j] = impl.Span{From: 100*i + j, To: -7}
		}
	}
	for i := range first {
		_ = append(first[i].Groups, impl.Span{})
	}
	for i := range first {
		for j := range first[i].Groups {
			if first[i].Groups[j] != (impl.Span{From: 100*i + j, To: -7}) {
				t.Fatalf("the groups of two matches share memory: %v", first)
			}
		}
	}
	if got := impl.All(pattern, text); len(want) != 4 || !sameMatches(got, want) {
		t.Errorf("got %v, want %v", got, want)
	}
}

// Very many ways at every place, whether they lead to an end or not, and a match of its own for each place.
func TestAllOfVeryManyWays(t *testing.T) {
	long := strings.Repeat("a", impl.MaxText)
	sideBySide := strings.Repeat("(a{0,50}?){0,50}?", 6)
	for _, pattern := range append(manyWays(), sideBySide) {
		orOne, orNothing := withNoEnd(pattern)+"|a", withNoEnd(pattern)+"|"
		mustRead(t, orOne)
		inTime(t, pattern, func() {
			if got := impl.Count(orOne, long); got != impl.MaxText {
				t.Errorf("%q: counts %d", orOne, got)
			}
			if got := impl.All(orNothing, long[1:]+"b"); len(got) != 2 || got[0].To != impl.MaxText {
				t.Errorf("%q: %v", orNothing, got)
			}
			got := impl.All(pattern, long)
			if len(got) != impl.Count(pattern, long) || len(got) == 0 || got[len(got)-1].To != impl.MaxText {
				t.Errorf("%q: %v", pattern, got)
			}
		})
	}
}
