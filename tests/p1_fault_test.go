package tests

import (
	"strings"
	"testing"

	"loop.example/twist/impl"
)

func TestFaultPlaces(t *testing.T) {
	for text, at := range map[string]int{
		// A byte that cannot stand there.
		"+": 0, "?": 0, "{2}": 0, "]": 0, "a]": 1, "a}": 1, ")": 0, "ab)": 2, "(a))": 3,
		"a|*": 2, "(*a)": 1, "|{2}": 1, "(|+)": 2,
		"a*+": 2, "a*{2}": 2, "a{2}{3}": 4, "a{2}*": 4, "a???": 3, "a+??": 3, "a{2}??": 5, "a{2,}?*": 6,
		"a{}": 2, "a{x}": 2, "a{ 2}": 2, "a{-1}": 2, "a{2x}": 3, "a{2 }": 3, "a{2,x}": 4, "a{2,,}": 4, "a{2,3,}": 5, "a{2,3x": 5,
		"\\0": 1, "\\a": 1, "\\D": 1, "\\x\\": 2, "\\xg0": 2, "\\xA0": 2, "\\x0A": 3, "\\x-1": 2, "\\\x7f": 1, "\\\n": 1, "\\\x80": 1,
		"[\\q]": 2, "[a\\ ]": 3, "[a-\\q]": 4, "[a-\\x6G]": 6, "[ab]]": 4, "[a-]b]": 5, "[\\x4]": 4,
		// The end, where more has to come.
		"(": 1, "(a|": 3, "((a)": 4, "[": 1, "[^": 2, "[]": 2, "[^]": 3, "[a": 2, "[a-": 3, "[a-b": 4, "[]-": 3, "[\\d-": 4, "[a\\]": 4,
		"a{": 2, "a{2": 3, "a{2,": 4, "a{2,3": 5, "\\": 1, "a\\": 2, "\\x": 2, "\\x4": 3, "[\\": 2, "[\\x": 3, "[a-\\": 4, "[b-\\x4": 6,
		// Numbers, at their first digit, whatever comes behind.
		"a{51}": 2, "a{51,}": 2, "a{51": 2, "a{51x": 2, "a{0051}": 2, "a{100}": 2, "a{60,70}": 2, "a{0,51}": 4, "a{2,051}": 4, "a{2,99": 4,
		"a{1,0}": 4, "a{50,49}": 5, "a{12,3}": 5, "a{3,2x": 4, "a{3,002}": 4, "ab(c{2,1}": 7,
		"a{4294967297}": 2, "a{18446744073709551617}": 2, "a{1,18446744073709551617}": 4,
		// Ranges, at their second part's first byte.
		"[b-a]": 3, "[^b-a]": 4, "[a--]": 3, "[]-A]": 3, "[a-\\d]": 3, "[a-\\w]": 3, "[a-\\s]": 3, "[b-\\x61]": 3, "[b-\\n]": 3,
		"[--\\d]": 3, "[--+]": 3, "[a-cb-a]": 6, "[b-a": 3, "[b-aq-p]": 3, "[\\d-fz-b]": 7, "[a-\\]]": 3, "[\\xff-\\xfe]": 6,
		// The first of several faults.
		"a**)": 2, "[b-a](": 3, "(a{51}": 3, "(\\q": 2,
	} {
		mustFail(t, text, at)
	}
}

func TestCountAtItsBound(t *testing.T) {
	for _, text := range []string{"a{50}", "a{50,}", "a{0,50}", "a{50,50}", "a{000000050}"} {
		mustRead(t, text)
	}
	mustFail(t, "a{51}", 2)
	mustFail(t, "a{51,}", 2)
	mustFail(t, "a{0,51}", 4)
	mustFail(t, "a{50,51}", 5)
	mustFail(t, "a{000000051}", 2)
	mustFail(t, "a{"+strings.Repeat("9", 100)+"}", 2)
}

func TestGroupsAtTheirBound(t *testing.T) {
	nine := strings.Repeat("(a)", impl.MaxGroups)
	if p := mustRead(t, nine); p.Groups != impl.MaxGroups {
		t.Errorf("%d groups", p.Groups)
	}
	mustFail(t, nine+"()", len(nine))
	mustFail(t, nine+"b(", len(nine)+1)
	// Groups in groups count like any others.
	nested := "((a)(b))((c)(d))((e)())"
	if p := mustRead(t, nested); p.Groups != impl.MaxGroups {
		t.Errorf("%d groups", p.Groups)
	}
	mustFail(t, "((a)(b))((c)(d))((e)()())", 22)
	// A ( that is no group does not count.
	mustRead(t, nine+"\\([(]")
}

func TestDeepAtItsBound(t *testing.T) {
	open, shut := strings.Repeat("(", impl.MaxDeep), strings.Repeat(")", impl.MaxDeep)
	if p := mustRead(t, open+"a"+shut); p.Groups != impl.MaxDeep {
		t.Errorf("%d groups", p.Groups)
	}
	mustFail(t, open+"()"+shut, impl.MaxDeep)
	mustFail(t, open, impl.MaxDeep)
	mustFail(t, open+"(", impl.MaxDeep)
	// One that has ended is no longer around those behind it.
	mustRead(t, open+shut+"(((a)))")
	mustRead(t, "(a)(((((b)))))")
	mustRead(t, "("+"(a)"+strings.Repeat("(", impl.MaxDeep-1)+"b"+shut)
	mustFail(t, "((a)((((((b)))))))", 9)
}

func TestPatternLengthAtItsBound(t *testing.T) {
	long := strings.Repeat("a", impl.MaxPattern)
	if p := mustRead(t, long); len(p.Pieces) != impl.MaxPattern+1 {
		t.Errorf("%d pieces", len(p.Pieces))
	}
	mustRead(t, strings.Repeat("|", impl.MaxPattern))
	mustFail(t, long+"a", impl.MaxPattern)
	mustFail(t, long+strings.Repeat("(", 100000), impl.MaxPattern)
	mustFail(t, "*"+long, impl.MaxPattern)
	mustFail(t, long[1:]+"(", impl.MaxPattern)
	mustFail(t, long[1:]+")", impl.MaxPattern-1)
}

// canGoOn tells whether something put behind a text makes it a pattern: what ends an escape, a part or
// braces, then what ends a set, then what ends groups.
func canGoOn(text string) bool {
	for _, part := range []string{"", "0", "n", "00", "\\xff", "}", "0}", "50}"} {
		for _, set := range []string{"", "]", "a]"} {
			for groups := range 7 {
				if impl.ReadPattern(text + part + set + strings.Repeat(")", groups)).Ok {
					return true
				}
			}
		}
	}
	return false
}

// The place of a fault is that of the first byte with which no pattern begins; checked for every short text
// in which no number is too large or too small and no second part of a range is an escape.
func TestFaultIsTheFirstByteThatCannotStand(t *testing.T) {
	for bytes, longest := range map[string]int{
		"()[]{}*?|^-\\adx1,": 4,
		"[]^-ab":             6,
		"()|*a":              6,
		"a{1,}?":             6,
	} {
		begins := map[string]bool{}
		everyText(bytes, longest, func(text string) {
			if strings.Contains(text, "111") || strings.Contains(text, "11,1") {
				return
			}
			begins[text] = (text == "" || begins[text[:len(text)-1]]) && canGoOn(text)
			at := len(text)
			for at > 0 && !begins[text[:at]] {
				at--
			}
			if got := impl.ReadPattern(text); !got.Ok {
				mustFail(t, text, at)
			}
		})
	}
}
