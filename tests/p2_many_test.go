package tests

import (
	"strings"
	"testing"
	"time"

	"loop.example/twist/impl"
)

// inTime fails when what is done takes longer than any pattern may: one way at a
// time, each of those here would take longer than there is.
func inTime(t *testing.T, name string, do func()) {
	t.Helper()
	done := make(chan struct{})
	go func() {
		defer close(done)
		do()
	}()
	select {
	case <-done:
	case <-time.After(30 * time.Second):
		t.Fatalf("%s takes too long", name)
	}
}

// nested is a pattern in groups that stand in one another, each with these counts.
func nested(inner, counts string, deep int) string {
	for range deep {
		inner = "(" + inner + ")" + counts
	}
	return inner
}

// manyWays are patterns with more ways in a long text of a than could be gone
// through, each with a way to every place, and short enough for withNoEnd.
func manyWays() []string {
	return []string{
		"((a?)*)*",
		"((a*)*)*",
		"(a|a)*(a|a)*(a*)*",
		"(a|aa|aaa)*(a|aa)*?",
		"(a*?)*?(a*?)*",
		strings.Repeat("a*", impl.MaxPattern/2-1),
		strings.Repeat("(a|aa)*", 9) + strings.Repeat("a*?", 18),
		"(" + strings.Repeat("a*", 57) + ")*",
		"(" + strings.Repeat("a?", 56) + "){4}",
		nested("a*", "*", 6),
		nested("a?", "{50}", 6),
		nested("a?", "{50,}", 3),
		nested("a*?", "{50}", 3),
		nested("a{0,50}", "{0,50}", 6),
		nested("a{0,50}?", "{0,50}", 6),
		nested("a{0,50}?", "{0,50}?", 4),
		nested("a*", "{2,50}", 6),
		nested("a|aa|", "{0,50}", 6),
		nested("(a|aa)*|", "{50}", 3),
		"((a*){0,50}(a*?){0,50}(a*){0,50}?(a*?){0,50}?(a*){50}(a*?){50}){0,50}",
	}
}

// withNoEnd has as many ways, but none that ends in a text of a: a b stands behind them all.
func withNoEnd(pattern string) string { return strings.TrimSuffix(pattern, "a*") + "b" }

func TestVeryManyWays(t *testing.T) {
	long := strings.Repeat("a", impl.MaxText)
	for _, pattern := range manyWays() {
		mustRead(t, pattern)
		inTime(t, pattern, func() {
			seen := map[int]bool{}
			for _, m := range impl.Ways(pattern, long, 0) {
				if !m.Ok || m.From != 0 || seen[m.To] {
					t.Errorf("%q: %v", pattern, m)
				}
				seen[m.To] = true
			}
			if len(seen) != impl.MaxText+1 {
				t.Errorf("%q has %d ends", pattern, len(seen))
			}
		})
	}
}

func TestVeryManyWaysToNoEnd(t *testing.T) {
	long := strings.Repeat("a", impl.MaxText)
	for _, pattern := range manyWays() {
		pattern = withNoEnd(pattern)
		mustRead(t, pattern)
		inTime(t, pattern, func() {
			if got := impl.Find(pattern, long, 0); got.Ok {
				t.Errorf("%q: %v", pattern, got)
			}
			text := long[1:] + "b"
			if got := impl.Find(pattern, text, 0); !got.Ok || got.From != 0 || got.To != impl.MaxText {
				t.Errorf("%q: %v", pattern, got)
			}
		})
	}
}

// With very many ways, too, the first one to an end has its groups.
func TestGroupsOfVeryManyWays(t *testing.T) {
	long := strings.Repeat("a", impl.MaxText)
	for pattern, groups := range map[string]func(to int) []int{
		"((a?)*)*":             func(to int) []int { return []int{0, to, to - 1, to} },
		"(a|a)*(a|a)*(a*)*":    func(to int) []int { return []int{to - 1, to, -1, -1, -1, -1} },
		"(a*?)*(a*)":           func(to int) []int { return []int{to - 1, to, to, to} },
		"(a*)(a*)*?":           func(to int) []int { return []int{0, to, -1, -1} },
		"((a?){50}){50}":       func(to int) []int { return []int{to, to, to, to} },
		"(((a*){50}){50}){50}": func(to int) []int { return []int{to, to, to, to, to, to} },
	} {
		inTime(t, pattern, func() {
			var want []impl.Match
			for to := impl.MaxText; to > 0; to-- {
				want = append(want, at(to, groups(to)...))
			}
			got := impl.Ways(pattern, long, 0)
			if len(got) != impl.MaxText+1 || got[impl.MaxText].To != 0 || !sameMatches(got[:impl.MaxText], want) {
				t.Errorf("%q: got %v, want %v", pattern, got, want)
			}
		})
	}
}

// Without a repeat, too: nine groups of as many ways as fit in.
func TestVeryManyWaysOfAlts(t *testing.T) {
	for _, c := range []struct {
		pattern string
		longest int
	}{
		{strings.Repeat("(|a|aa||a|a|)", 9), 18},
		{strings.Repeat("(aa|aa|a|a||)", 9), 18},
		{"(" + strings.Repeat("(||||a|||||)", 8) + ")", 8},
	} {
		inTime(t, c.pattern, func() {
			if got := impl.Ways(c.pattern, strings.Repeat("a", 30), 0); len(got) != c.longest+1 {
				t.Errorf("%q: %v", c.pattern, got)
			}
			if got := impl.Find(c.pattern+"b", strings.Repeat("a", 30), 0); got.Ok {
				t.Errorf("%q: %v", c.pattern, got)
			}
		})
	}
}
