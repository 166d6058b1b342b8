package tests

import (
	"math"
	"slices"
	"strings"
	"testing"

	"loop.example/twist/impl"
)

// at is a way that ends at a place, with the From and To of each group.
func at(to int, groups ...int) impl.Match {
	m := impl.Match{Ok: true, To: to}
	for i := 0; i < len(groups); i += 2 {
		m.Groups = append(m.Groups, impl.Span{From: groups[i], To: groups[i+1]})
	}
	return m
}

// mustEnd checks the Ways from a place against what at gives.
func mustEnd(t *testing.T, pattern, text string, from int, want ...impl.Match) {
	t.Helper()
	want = slices.Clone(want)
	for i := range want {
		want[i].From = from
	}
	if got := impl.Ways(pattern, text, from); !sameMatches(got, want) {
		t.Errorf("%q in %q from %d: got %v, want %v", pattern, text, from, got, want)
	}
}

func TestWaysOfSets(t *testing.T) {
	for b := range 256 {
		text := string([]byte{byte(b)})
		mustEnd(t, impl.Escape(text), text, 0, at(1))
		mustEnd(t, impl.Escape(text), "", 0)
		mustEnd(t, "[^"+impl.Escape(text)+"]", text, 0)
		for pattern, in := range map[string]func(b int) bool{
			".": not(among("\n")), "\\d": isDigit, "\\w": isWord, "\\s": among("\t\n\r "), "[b-d\\x80-\\xff]": either(within('b', 'd'), within(128, 255)),
			"[^\\x00-\\xff]": among(""), "[\\x00-\\xff]": within(0, 255),
		} {
			if in(b) {
				mustEnd(t, pattern, "x"+text+"x", 1, at(2))
			} else {
				mustEnd(t, pattern, "x"+text+"x", 1)
			}
		}
	}
}

func TestWaysOfSeqsAndAlts(t *testing.T) {
	mustEnd(t, "", "ab", 0, at(0))
	mustEnd(t, "", "ab", 1, at(1))
	mustEnd(t, "", "ab", 2, at(2))
	mustEnd(t, "", "", 0, at(0))
	mustEnd(t, "ab", "abab", 0, at(2))
	mustEnd(t, "ab", "abab", 1)
	mustEnd(t, "ab", "aba", 2)
	mustEnd(t, "|", "a", 0, at(0))
	mustEnd(t, "a|ab|abc", "abc", 0, at(1), at(2), at(3))
	mustEnd(t, "abc|a|ab", "abc", 0, at(3), at(1), at(2))
	mustEnd(t, "a|b|", "b", 0, at(1), at(0))
	mustEnd(t, "|a|b", "b", 0, at(0), at(1))
	mustEnd(t, "ax|ab|ay", "ab", 0, at(2))
	// The ways of later kids change first.
	mustEnd(t, "(a|ab)(c|bcd|)", "abcd", 0, at(4, 0, 1, 1, 4), at(1, 0, 1, 1, 1), at(3, 0, 2, 2, 3), at(2, 0, 2, 2, 2))
	mustEnd(t, "(|a)(|a)(|a)", "aa", 0, at(0, 0, 0, 0, 0, 0, 0), at(1, 0, 0, 0, 0, 0, 1), at(2, 0, 0, 0, 1, 1, 2))
	mustEnd(t, "(a|)(a|)(a|)", "aa", 0, at(2, 0, 1, 1, 2, 2, 2), at(1, 0, 1, 1, 1, 1, 1), at(0, 0, 0, 0, 0, 0, 0))
}

// Each end stands once, with the groups of the first way to it, not of a later one.
func TestWaysHaveEachEndOnce(t *testing.T) {
	mustEnd(t, "a|a|a", "a", 0, at(1))
	mustEnd(t, "(a)|(a)", "a", 0, at(1, 0, 1, -1, -1))
	mustEnd(t, "(a)b|a(b)|(ab)", "ab", 0, at(2, 0, 1, -1, -1, -1, -1))
	mustEnd(t, "(ax)|(a)b|a(b)", "ab", 0, at(2, -1, -1, 0, 1, -1, -1))
	mustEnd(t, "(a*)(a*)", "aa", 0, at(2, 0, 2, 2, 2), at(1, 0, 1, 1, 1), at(0, 0, 0, 0, 0))
	mustEnd(t, "(a*?)(a*)", "aa", 0, at(2, 0, 0, 0, 2), at(1, 0, 0, 0, 1), at(0, 0, 0, 0, 0))
	mustEnd(t, "(a*)(a*?)", "aa", 0, at(2, 0, 2, 2, 2), at(1, 0, 1, 1, 1), at(0, 0, 0, 0, 0))
	mustEnd(t, "(a*?)(a*?)", "aa", 0, at(0, 0, 0, 0, 0), at(1, 0, 0, 0, 1), at(2, 0, 0, 0, 2))
	mustEnd(t, "(a|ab)(bc|c)?", "abc", 0, at(3, 0, 1, 1, 3), at(1, 0, 1, -1, -1), at(2, 0, 2, -1, -1))
}

func TestWaysOfGroups(t *testing.T) {
	mustEnd(t, "()", "a", 1, at(1, 1, 1))
	mustEnd(t, "a(b)c", "xabc", 1, at(4, 2, 3))
	mustEnd(t, "((a)(b(c)))(d)", "abcd", 0, at(4, 0, 3, 0, 1, 1, 3, 2, 3, 3, 4))
	mustEnd(t, "((((((a))))))()()()", "a", 0, at(1, 0, 1, 0, 1, 0, 1, 0, 1, 0, 1, 0, 1, 1, 1, 1, 1, 1, 1))
	// Passed several times, it has its last span; passed on another way only, it has none.
	mustEnd(t, "(a|b)*", "abc", 0, at(2, 1, 2), at(1, 0, 1), at(0, -1, -1))
	mustEnd(t, "(a|b)*?", "abc", 0, at(0, -1, -1), at(1, 0, 1), at(2, 1, 2))
	mustEnd(t, "(a|b){3}", "abb", 0, at(3, 2, 3))
	mustEnd(t, "((a)|(b))*", "ab", 0, at(2, 1, 2, 0, 1, 1, 2), at(1, 0, 1, 0, 1, -1, -1), at(0, -1, -1, -1, -1, -1, -1))
	mustEnd(t, "((a)|(b)){2}", "ba", 0, at(2, 1, 2, 1, 2, 0, 1))
	mustEnd(t, "(a(b)?)*", "aba", 0, at(3, 2, 3, 1, 2), at(2, 0, 2, 1, 2), at(1, 0, 1, -1, -1), at(0, -1, -1, -1, -1))
	mustEnd(t, "(a)?b|ab", "ab", 0, at(2, 0, 1))
	mustEnd(t, "(a)c|(a)b", "ab", 0, at(2, -1, -1, 0, 1))
	mustEnd(t, "((a)c)?(a)b", "ab", 0, at(2, -1, -1, -1, -1, 0, 1))
	mustEnd(t, "(a){0}b", "b", 0, at(1, -1, -1))
	mustEnd(t, "(x)*a", "a", 0, at(1, -1, -1))
}

func TestWaysOfCounts(t *testing.T) {
	down, up := []impl.Match{at(3), at(2), at(1), at(0)}, []impl.Match{at(0), at(1), at(2), at(3)}
	for counts, ends := range map[string][2]int{ // the last and the first of down
		"*": {0, 3}, "+": {1, 3}, "?": {0, 1}, "{0}": {0, 0}, "{2}": {2, 2}, "{4}": {1, 0}, "{0,}": {0, 3}, "{2,}": {2, 3}, "{4,}": {1, 0},
		"{0,0}": {0, 0}, "{0,2}": {0, 2}, "{2,3}": {2, 3}, "{2,9}": {2, 3}, "{3,50}": {3, 3}, "{4,5}": {1, 0}, "{50}": {1, 0}, "{0,50}": {0, 3},
	} {
		least, most := ends[0], ends[1]
		if least > most {
			mustEnd(t, "a"+counts, "aaab", 0)
			mustEnd(t, "a"+counts+"?", "aaab", 0)
			continue
		}
		mustEnd(t, "a"+counts, "aaab", 0, down[3-most:4-least]...)
		mustEnd(t, "a"+counts+"?", "aaab", 0, up[least:most+1]...)
	}
	// What may be of several lengths.
	mustEnd(t, "(a|aa){2}", "aaaaa", 0, at(2, 1, 2), at(3, 1, 3), at(4, 2, 4))
	mustEnd(t, "(aa|a){2}", "aaaaa", 0, at(4, 2, 4), at(3, 2, 3), at(2, 1, 2))
	mustEnd(t, "(a|aa){1,2}", "aaaaa", 0, at(2, 1, 2), at(3, 1, 3), at(1, 0, 1), at(4, 2, 4))
	mustEnd(t, "(a|aa){1,2}?", "aaaaa", 0, at(1, 0, 1), at(2, 1, 2), at(3, 1, 3), at(4, 2, 4))
	mustEnd(t, "(aa|a){0,2}?", "aaaaa", 0, at(0, -1, -1), at(2, 0, 2), at(4, 2, 4), at(3, 2, 3), at(1, 0, 1))
	// Fewer counts are left on the first way to a place than on a later one.
	mustEnd(t, "(a|aa){0,2}", "aaa", 0, at(2, 1, 2), at(3, 1, 3), at(1, 0, 1), at(0, -1, -1))
	mustEnd(t, "(a|aa|aaa){0,3}b", "aaaaaaaab", 0, at(9, 5, 8))
	mustEnd(t, "(a|aa|aaa){0,3}?b", "aaaaaaaab", 0, at(9, 5, 8))
	mustEnd(t, "(a|aaaa){3,4}b", "aaaaaaaaaaaaab", 0, at(14, 9, 13))
}

// Min times the kid may be over nothing; behind that it has to get further.
func TestWaysOfRepeatsOfNothing(t *testing.T) {
	for _, counts := range []string{"*", "?", "{0}", "{0,}", "{0,0}", "{0,7}", "{0,50}"} {
		for _, lazy := range []string{"", "?"} {
			mustEnd(t, "()"+counts+lazy, "a", 0, at(0, -1, -1))
			mustEnd(t, "(|)"+counts+lazy, "a", 1, at(1, -1, -1))
			mustEnd(t, "^"+counts+lazy, "a", 1, at(1))
			mustEnd(t, "$"+counts+lazy, "a", 1, at(1))
		}
	}
	for _, counts := range []string{"+", "{1}", "{2}", "{50}", "{1,}", "{50,}", "{1,1}", "{1,50}", "{50,50}"} {
		for _, lazy := range []string{"", "?"} {
			mustEnd(t, "()"+counts+lazy, "a", 0, at(0, 0, 0))
			mustEnd(t, "(()|b)"+counts+lazy, "a", 1, at(1, 1, 1, 1, 1))
			mustEnd(t, "^"+counts+lazy, "a", 0, at(0))
			mustEnd(t, "^"+counts+lazy, "a", 1)
			mustEnd(t, "$"+counts+lazy, "a", 1, at(1))
			mustEnd(t, "$"+counts+lazy, "a", 0)
		}
	}
	mustEnd(t, "(a*)*", "aa", 0, at(2, 0, 2), at(1, 0, 1), at(0, -1, -1))
	mustEnd(t, "(a*)+", "aa", 0, at(2, 0, 2), at(1, 0, 1), at(0, 0, 0))
	mustEnd(t, "(a*){2}", "aa", 0, at(2, 2, 2), at(1, 1, 1), at(0, 0, 0))
	mustEnd(t, "(a*?){2}", "aa", 0, at(0, 0, 0), at(1, 0, 1), at(2, 0, 2))
	mustEnd(t, "(a*?)*", "aa", 0, at(2, 1, 2), at(1, 0, 1), at(0, -1, -1))
	mustEnd(t, "(a*?)*?", "aa", 0, at(0, -1, -1), at(1, 0, 1), at(2, 1, 2))
	mustEnd(t, "(a*?)+?", "aa", 0, at(0, 0, 0), at(1, 0, 1), at(2, 1, 2))
	mustEnd(t, "(a?){2}", "a", 0, at(1, 1, 1), at(0, 0, 0))
	mustEnd(t, "(a?){1,2}", "a", 0, at(1, 0, 1), at(0, 0, 0))
	mustEnd(t, "(a?){1,2}?", "a", 0, at(1, 0, 1), at(0, 0, 0))
	mustEnd(t, "(|a){2}", "aaa", 0, at(0, 0, 0), at(1, 0, 1), at(2, 1, 2))
	mustEnd(t, "(|a)+", "aaa", 0, at(3, 2, 3), at(2, 1, 2), at(1, 0, 1), at(0, 0, 0))
	mustEnd(t, "(|a){2,3}", "aaa", 0, at(1, 0, 1), at(0, 0, 0), at(2, 1, 2), at(3, 2, 3))
	mustEnd(t, "(|a){2,3}?", "aaa", 0, at(0, 0, 0), at(1, 0, 1), at(2, 1, 2), at(3, 2, 3))
	mustEnd(t, "(^|a)*", "aa", 0, at(2, 1, 2), at(1, 0, 1), at(0, -1, -1))
	mustEnd(t, "(^|a)+", "aa", 0, at(2, 1, 2), at(1, 0, 1), at(0, 0, 0))
	mustEnd(t, "((a)|())*", "a", 0, at(1, 0, 1, 0, 1, -1, -1), at(0, -1, -1, -1, -1, -1, -1))
	mustEnd(t, "((a)|()){3}", "a", 0, at(1, 1, 1, 0, 1, 1, 1), at(0, 0, 0, -1, -1, 0, 0))
}

func TestStartAndEndAtEveryPlace(t *testing.T) {
	text := "a\nab\n"
	for from := 0; from <= len(text); from++ {
		start, end := []impl.Match(nil), []impl.Match(nil)
		if from == 0 {
			start = []impl.Match{at(0)}
		}
		if from == len(text) {
			end = []impl.Match{at(from)}
		}
		mustEnd(t, "^", text, from, start...)
		mustEnd(t, "^^", text, from, start...)
		mustEnd(t, "$", text, from, end...)
		mustEnd(t, "$$", text, from, end...)
		mustEnd(t, "^$", text, from)
		mustEnd(t, "$^", text, from)
		mustEnd(t, "^|$", text, from, append(start, end...)...)
	}
	mustEnd(t, "^$", "", 0, at(0))
	mustEnd(t, "$^", "", 0, at(0))
	mustEnd(t, "^a", "aa", 0, at(1))
	mustEnd(t, "^a", "aa", 1)
	mustEnd(t, "a^", "aa", 0)
	mustEnd(t, "a^a", "aa", 0)
	mustEnd(t, "a$", "aa", 0)
	mustEnd(t, "a$", "aa", 1, at(2))
	mustEnd(t, "a$a", "aa", 0)
	mustEnd(t, "a$", "a\n", 0)
	mustEnd(t, "\\n^a", "\na", 0)
	mustEnd(t, "a*$", "aaa", 0, at(3))
	mustEnd(t, "a*?$", "aaa", 0, at(3))
	mustEnd(t, "(a$|^b|ab)*", "aba", 0, at(3, 2, 3), at(2, 0, 2), at(0, -1, -1))
	mustEnd(t, "(^a|^b)*", "ab", 0, at(1, 0, 1), at(0, -1, -1))
	mustEnd(t, "(^a?){2}b", "ab", 0, at(2, 0, 1))
	mustEnd(t, "(^a){2}", "aa", 0)
	mustEnd(t, "(a?^){2}b", "ab", 0)
	mustEnd(t, "(a?$)+", "a", 0, at(1, 0, 1))
}

func TestWaysOfWrongArguments(t *testing.T) {
	noMatch := func(pattern, text string, from int) {
		t.Helper()
		if got := impl.Ways(pattern, text, from); len(got) != 0 {
			t.Errorf("Ways(%q, %q, %d): %v", pattern, text, from, got)
		}
		if got := impl.Find(pattern, text, from); !sameMatch(got, impl.Match{}) {
			t.Errorf("Find(%q, %q, %d): %v", pattern, text, from, got)
		}
	}
	for _, pattern := range []string{"(", ")", "a**", "a{51}", "[b-a]", "[", "\\", "a|*", strings.Repeat("()", 10), strings.Repeat("a", impl.MaxPattern+1), strings.Repeat("|", 1<<20)} {
		for _, text := range []string{"", "a", pattern} {
			noMatch(pattern, text, 0)
			if got := impl.Whole(pattern, text); !sameMatch(got, impl.Match{}) {
				t.Errorf("Whole(%q, %q): %v", pattern, text, got)
			}
		}
	}
	for _, text := range []string{"", "a", "aaa", strings.Repeat("a", impl.MaxText)} {
		for _, pattern := range []string{"", "a", "a*", "(a|)"} {
			for _, from := range []int{-1, -2, len(text) + 1, len(text) + 2, math.MinInt, math.MaxInt} {
				noMatch(pattern, text, from)
			}
			if got := impl.Ways(pattern+"|", text, len(text)); len(got) != 1 || got[0].From != len(text) || got[0].To != len(text) {
				t.Errorf("%q behind %q: %v", pattern+"|", text, got)
			}
			if got := impl.Find(pattern+"|", text, len(text)); !got.Ok || got.From != len(text) || got.To != len(text) {
				t.Errorf("%q behind %q: %v", pattern+"|", text, got)
			}
		}
	}
	for _, length := range []int{impl.MaxText + 1, impl.MaxText + 56, 1 << 20} {
		long := strings.Repeat("a", length)
		for _, from := range []int{0, 1, impl.MaxText, impl.MaxText + 1, length} {
			noMatch("a*", long, from)
			noMatch("", long, from)
		}
		if got := impl.Whole("a*", long); !sameMatch(got, impl.Match{}) {
			t.Errorf("Whole of %d bytes: %v", length, got)
		}
	}
}

func TestWaysAtTheBound(t *testing.T) {
	long := strings.Repeat("a", impl.MaxText)
	if got := impl.Ways("a*", long, 0); len(got) != impl.MaxText+1 || got[0].To != impl.MaxText || got[impl.MaxText].To != 0 {
		t.Errorf("%v", got)
	}
	mustEnd(t, "(a)$", long, impl.MaxText-1, at(impl.MaxText, impl.MaxText-1, impl.MaxText))
	pattern := strings.Repeat("a", impl.MaxPattern)
	mustEnd(t, pattern, long, 0, at(impl.MaxPattern))
	mustEnd(t, pattern, long, impl.MaxText-impl.MaxPattern, at(impl.MaxText))
	mustEnd(t, pattern, long, impl.MaxText-impl.MaxPattern+1)
}

func TestWhole(t *testing.T) {
	for _, c := range []struct {
		pattern, text string
		want          impl.Match
	}{
		{"", "", at(0)},
		{"", "a", impl.Match{}},
		{"a", "a", at(1)},
		{"a", "", impl.Match{}},
		{"a", "ab", impl.Match{}},
		{"b", "ab", impl.Match{}},
		{"a|ab", "ab", at(2)},
		{"a*?", "aaa", at(3)},
		{"(a|ab)(b?)", "ab", at(2, 0, 1, 1, 2)},
		{"(a*)(a*)", "aa", at(2, 0, 2, 2, 2)},
		{"(a*?)(a*?)", "aa", at(2, 0, 0, 0, 2)},
		{"(a|b|ab)*", "ab", at(2, 1, 2)},
		{"(ab|a|b)*", "ab", at(2, 0, 2)},
		{"(a)|(b)", "b", at(1, -1, -1, 0, 1)},
		{"a$|ab", "ab", at(2)},
		{"(", "(", impl.Match{}},
	} {
		if got := impl.Whole(c.pattern, c.text); !sameMatch(got, c.want) {
			t.Errorf("%q in %q: got %v, want %v", c.pattern, c.text, got, c.want)
		}
	}
}

func TestWholeIsTheFirstToTheEnd(t *testing.T) {
	for seed := range 5000 {
		pattern, text := grownPattern(seed, "aab.^$"), grownText(seed, "aab\n", 7)
		var want impl.Match
		for _, m := range impl.Ways(pattern, text, 0) {
			if m.To == len(text) {
				want = m
			}
		}
		if got := impl.Whole(pattern, text); !sameMatch(got, want) {
			t.Fatalf("%q in %q: got %v, want %v", pattern, text, got, want)
		}
	}
}

// Each list is filled to its capacity with a number of its own: were memory shared, one would lose its own.
func TestWaysShareNoMemory(t *testing.T) {
	for _, pattern := range []string{"(a)(b)*", "(a)b*", "b*(a)?b*", "(ab*?)|(c)", "(a)(x|y)*b?b?"} {
		first, second := impl.Ways(pattern, "abbb", 0), impl.Ways(pattern, "abbb", 0)
		if !sameMatches(first, second) || len(first) == 0 {
			t.Errorf("%q: %v and %v", pattern, first, second)
		}
		found, whole := impl.Find(pattern, "abbb", 0), impl.Whole(pattern, "abbb")
		kept := slices.Clone(found.Groups)
		all := append(slices.Clone(first), whole)
		for i, m := range all {
			for k := range m.Groups[:cap(m.Groups)] {
				m.Groups[:cap(m.Groups)][k] = impl.Span{From: 1000 + i}
			}
		}
		for i, m := range all {
			for _, span := range m.Groups[:cap(m.Groups)] {
				if span.From != 1000+i {
					t.Fatalf("%q: the groups of match %d are also those of match %d", pattern, i, span.From-1000)
				}
			}
		}
		if !slices.Equal(found.Groups, kept) || !sameMatches(second, impl.Ways(pattern, "abbb", 0)) {
			t.Errorf("%q: two answers share memory", pattern)
		}
	}
}
