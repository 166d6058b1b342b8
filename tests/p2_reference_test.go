package tests

import (
	"testing"

	"loop.example/twist/impl"
)

// checkEveryPattern checks each pattern of at most longest of these bytes in each of the texts.
func checkEveryPattern(t *testing.T, bytes string, longest int, texts []string) {
	t.Helper()
	read := 0
	everyText(bytes, longest, func(pattern string) {
		if !impl.ReadPattern(pattern).Ok {
			return
		}
		read++
		for _, text := range texts {
			if checkByReference(t, pattern, text) != len(text)+1 {
				t.Errorf("%q has too many ways in %q", pattern, text)
			}
		}
	})
	if read < 1000 {
		t.Errorf("only %d patterns", read)
	}
}

func TestWaysOfEveryShortPattern(t *testing.T) {
	checkEveryPattern(t, "a|()*?", 6, []string{"", "a", "aaa"})
	checkEveryPattern(t, "ab|*?.", 5, []string{"ab", "ba", "aab", "b\na"})
	checkEveryPattern(t, "a^$|()*", 5, []string{"", "a", "aa"})
	checkEveryPattern(t, "a()+?b", 6, []string{"ab", "aba"})
}

func TestWaysOfGrownPatterns(t *testing.T) {
	checked := 0
	for seed := range 30000 {
		text := grownText(seed, "aab\n", 7)
		checked += checkByReference(t, grownPattern(seed, "aaab.^$"), text)
		checked += checkByReference(t, grownPattern(seed, "aab"), text)
	}
	if checked < 200000 {
		t.Errorf("only %d places were checked", checked)
	}
}
