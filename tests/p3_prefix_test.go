package tests

import (
	"strings"
	"testing"

	"loop.example/twist/impl"
)

// checkPrefixes checks that a way from 0 ends at a place if and only if the pattern is whole in the text up to there.
func checkPrefixes(t *testing.T, pattern, text string) {
	t.Helper()
	ends := map[int]bool{}
	for _, m := range impl.Ways(pattern, text, 0) {
		ends[m.To] = true
	}
	for place := 0; place <= len(text); place++ {
		m := impl.Whole(pattern, text[:place])
		if m.Ok != ends[place] {
			t.Fatalf("%q in %q: a way ends at %d: %v, whole up to there: %v", pattern, text, place, ends[place], m.Ok)
		}
		if m.Ok && (m.From != 0 || m.To != place) {
			t.Fatalf("%q in %q: whole is %v", pattern, text[:place], m)
		}
	}
}

func TestWaysEndWhereThePatternIsWhole(t *testing.T) {
	everyText("ab|()*?", 5, func(pattern string) {
		if impl.ReadPattern(pattern).Ok {
			for _, text := range []string{"", "aba", "aabb", "bbaa"} {
				checkPrefixes(t, pattern, text)
			}
		}
	})
	for seed := range 10000 {
		checkPrefixes(t, grownPattern(seed, "aaab."), grownText(seed, "aaab\n", 12))
	}
}

func TestWaysEndWhereALongPatternIsWhole(t *testing.T) {
	for seed := range 5 {
		for _, pattern := range []string{"(a|ab)*(b|aa)*", "((a|b)(a|ba)?){7,}", "(a{2}|b{3}|aba)*?", "(.*a){3,9}", "\\w{20,50}b"} {
			checkPrefixes(t, pattern, (grownText(seed, "aab", 60) + strings.Repeat("ab", impl.MaxText))[:impl.MaxText])
		}
	}
}
