package tests

import (
	"strings"
	"testing"

	"loop.example/twist/impl"
)

// checkFind compares Find from every place, and from beside them, with the Ways from each place in turn.
func checkFind(t *testing.T, pattern, text string) {
	t.Helper()
	for from := -1; from <= len(text)+1; from++ {
		var want impl.Match
		for place := from; 0 <= from && place <= len(text) && !want.Ok; place++ {
			if ways := impl.Ways(pattern, text, place); len(ways) > 0 {
				want = ways[0]
			}
		}
		if got := impl.Find(pattern, text, from); !sameMatch(got, want) {
			t.Fatalf("%q in %q from %d: got %v, want %v", pattern, text, from, got, want)
		}
	}
}

func TestFind(t *testing.T) {
	for _, c := range []struct {
		pattern, text string
		from          int
		want          impl.Match
	}{
		{"b+", "abbab", 0, impl.Match{Ok: true, From: 1, To: 3}},
		{"b+", "abbab", 2, impl.Match{Ok: true, From: 2, To: 3}},
		{"b+", "abbab", 3, impl.Match{Ok: true, From: 4, To: 5}},
		{"b+", "abbab", 5, impl.Match{}},
		{"b+?", "abbab", 0, impl.Match{Ok: true, From: 1, To: 2}},
		{"b*", "abbab", 0, impl.Match{Ok: true}},
		{"c", "abbab", 0, impl.Match{}},
		{"bab|ab|b", "abbab", 0, impl.Match{Ok: true, To: 2}},
		{"(b)(a)?", "abbab", 0, impl.Match{Ok: true, From: 1, To: 2, Groups: []impl.Span{{From: 1, To: 2}, {From: -1, To: -1}}}},
		{"(b)(a)", "abbab", 0, impl.Match{Ok: true, From: 2, To: 4, Groups: []impl.Span{{From: 2, To: 3}, {From: 3, To: 4}}}},
		{"^b", "abb", 0, impl.Match{}},
		{"^a", "aa", 1, impl.Match{}},
		{"b$", "abb", 0, impl.Match{Ok: true, From: 2, To: 3}},
		{"$", "abb", 0, impl.Match{Ok: true, From: 3, To: 3}},
		{"$", "abb", 3, impl.Match{Ok: true, From: 3, To: 3}},
		{"$", "", 0, impl.Match{Ok: true}},
		{"", "", 0, impl.Match{Ok: true}},
		{"a", "", 0, impl.Match{}},
	} {
		if got := impl.Find(c.pattern, c.text, c.from); !sameMatch(got, c.want) {
			t.Errorf("%q in %q from %d: got %v, want %v", c.pattern, c.text, c.from, got, c.want)
		}
	}
}

func TestFindIsTheFirstOfTheWays(t *testing.T) {
	everyText("ab|()*?", 5, func(pattern string) {
		for _, text := range []string{"", "ba", "aab"} {
			checkFind(t, pattern, text)
		}
	})
	for seed := range 8000 {
		checkFind(t, grownPattern(seed, "aabbc.^$"), grownText(seed, "aabbc\n", 10))
	}
}

// An earlier place that leads nowhere must not hide the ways of a later one.
func TestFindBehindPlacesThatLeadNowhere(t *testing.T) {
	long := strings.Repeat("a", impl.MaxText-2)
	for _, c := range []struct {
		pattern, text string
		want          impl.Match
	}{
		{"(a|aa){2}b", long + "bc", impl.Match{Ok: true, From: 194, To: 199, Groups: []impl.Span{{From: 196, To: 198}}}},
		{"a{0,3}b", long + "bc", impl.Match{Ok: true, From: 195, To: 199}},
		{"(a{1,2}?){0,3}b", long + "bc", impl.Match{Ok: true, From: 192, To: 199, Groups: []impl.Span{{From: 196, To: 198}}}},
		{"(a?){5}c|b", long + "bc", impl.Match{Ok: true, From: 198, To: 199, Groups: []impl.Span{{From: -1, To: -1}}}},
		{"a*$", long + "bc", impl.Match{Ok: true, From: 200, To: 200}},
		{"(a*)*c", long + "bc", impl.Match{Ok: true, From: 199, To: 200, Groups: []impl.Span{{From: -1, To: -1}}}},
	} {
		if got := impl.Find(c.pattern, c.text, 0); !sameMatch(got, c.want) {
			t.Errorf("%q: got %v, want %v", c.pattern, got, c.want)
		}
		for from := range 3 {
			if got := impl.Find(c.pattern, c.text, c.want.From-from); !sameMatch(got, c.want) {
				t.Errorf("%q: got %v, want %v", c.pattern, got, c.want)
			}
		}
	}
}
