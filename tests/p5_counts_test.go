package tests

import (
	"slices"
	"strconv"
	"strings"
	"testing"

	"loop.example/twist/impl"
)

// checkCounts checks the ends of a{m,k} over n bytes a: from the least of n and k down to m, lazily from m up.
func checkCounts(t *testing.T, pattern string, m, k, n int) {
	t.Helper()
	text := strings.Repeat("a", n)
	var want []impl.Match
	for to := min(n, k); to >= m; to-- {
		want = append(want, at(to))
	}
	if got := impl.Ways(pattern, text, 0); !sameMatches(got, want) {
		t.Fatalf("%s over %d: got %v, want %v", pattern, n, got, want)
	}
	slices.Reverse(want)
	if got := impl.Ways(pattern+"?", text, 0); !sameMatches(got, want) {
		t.Fatalf("%s? over %d: got %v, want %v", pattern, n, got, want)
	}
}

func TestCountsOverTheirWholeBounds(t *testing.T) {
	for m := range 21 {
		for n := range 61 {
			for k := m; k <= 40; k++ {
				checkCounts(t, "a{"+strconv.Itoa(m)+","+strconv.Itoa(k)+"}", m, k, n)
			}
			checkCounts(t, "a{"+strconv.Itoa(m)+",}", m, n, n)
			checkCounts(t, "a{"+strconv.Itoa(m)+"}", m, m, n)
		}
	}
}

// A second count below the first is no pattern.
func TestCountsThatAreNone(t *testing.T) {
	for m := range 21 {
		for k := range m {
			pattern := "a{" + strconv.Itoa(m) + "," + strconv.Itoa(k) + "}"
			if got := impl.Ways(pattern, strings.Repeat("a", m), 0); len(got) != 0 {
				t.Errorf("%s: %v", pattern, got)
			}
		}
	}
}
