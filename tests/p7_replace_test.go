package tests

import (
	"math"
	"strings"
	"testing"

	"loop.example/twist/impl"
)

func mustReplace(t *testing.T, pattern, text, with string, most int, want string, count int) {
	t.Helper()
	if got := impl.Replace(pattern, text, with, most); got != (impl.Replaced{Ok: true, Text: want, Count: count}) {
		t.Errorf("%q in %q by %q, at most %d: got %+v, want %q, %d times", pattern, text, with, most, got, want, count)
	}
}

func mustNotReplace(t *testing.T, pattern, text, with string, most int) {
	t.Helper()
	if got := impl.Replace(pattern, text, with, most); got != (impl.Replaced{}) {
		t.Errorf("%q in %q by %q, at most %d: got %+v, want nothing", pattern, text, with, most, got)
	}
}

// filled is what a template stands for in a match; meant has told what that is.
func filled(stands []int, text string, m impl.Match) string {
	var out []byte
	for _, what := range stands {
		switch {
		case what >= 0:
			out = append(out, byte(what))
		case what == -1:
			out = append(out, text[m.From:m.To]...)
		default:
			if span := m.Groups[-2-what]; span.From >= 0 {
				out = append(out, text[span.From:span.To]...)
			}
		}
	}
	return string(out)
}

// checkReplace goes over the text from match to match, for each bound up to one more than there are matches.
func checkReplace(t *testing.T, pattern, text, with string) {
	t.Helper()
	stands, _, ok := meant(with)
	if !ok {
		t.Fatalf("%q is no template", with)
	}
	all := impl.All(pattern, text)
	done, behind := "", 0
	for most := range len(all) + 2 {
		mustReplace(t, pattern, text, with, most, done+text[behind:], min(most, len(all)))
		if most < len(all) {
			done += text[behind:all[most].From] + filled(stands, text, all[most])
			behind = all[most].To
		}
	}
}

func TestReplace(t *testing.T) {
	for _, c := range []struct {
		pattern, text, with string
		want                string
		count               int
	}{
		{"b", "abba", "x", "axxa", 2},
		{"b", "abba", "", "aa", 2},
		{"b", "abba", "$0$0", "abbbba", 2},
		{"b+", "abbab", "<$0>", "a<bb>a<b>", 2},
		{"b", "abba", "$$", "a$$a", 2},
		{"b", "abba", "$$0", "a$0$0a", 2},
		{"b", "abba", "\\$0[b]", "a\\b[b]\\b[b]a", 2},
		{"aa", "aaaaa", "b", "bba", 2},
		{"a", "aaa", "aa", "aaaaaa", 3},
		{"(\\w+)=(\\w*)", "k=v, x=,=", "$2=$1", "v=k, =x,=", 2},
		{"(a)(b)?", "abaa", "<$2$1>", "<ba><a><a>", 3},
		{"((a)b)(c)", "xabcx", "$3$2$1$0$1", "xcaababcabx", 1},
		{"(a)", "bab", "$12", "ba2b", 1},
		{"^a", "aaa", "b", "baa", 1},
		{"a$", "aaa", "b", "aab", 1},
		{"^.*$", "abc", "[$0]", "[abc]", 1},
		{"c", "abba", "x", "abba", 0},
		{"c", "", "x", "", 0},
		{"[\\x80-\\xff]", "\x00\xff\n\x80", "$0\xc3$0", "\x00\xff\xc3\xff\n\x80\xc3\x80", 2},
	} {
		mustReplace(t, c.pattern, c.text, c.with, math.MaxInt, c.want, c.count)
		checkReplace(t, c.pattern, c.text, c.with)
	}
}

func TestReplaceOverNothing(t *testing.T) {
	for _, c := range []struct {
		pattern, text, with string
		want                string
		count               int
	}{
		{"", "", "-", "-", 1},
		{"", "ab", "-", "-a-b-", 3},
		{"", "ab", "", "ab", 3},
		{"", "ab", "<$0>", "<>a<>b<>", 3},
		{"()", "ab", "<$1>", "<>a<>b<>", 3},
		{"^", "ab", "-", "-ab", 1},
		{"$", "ab", "-", "ab-", 1},
		{"^|$", "ab", "-", "-ab-", 2},
		{"^|$", "", "-", "-", 1},
		{"x*", "axb", "-", "-a--b-", 4},
		{"x*", "axb", "<$0>", "<>a<x><>b<>", 4},
		{"x*", "xx", "<$0>", "<xx><>", 2},
		{"x*?", "xx", "<$0>", "<>x<>x<>", 3},
		{"x|", "axxb", "<$0>", "<>a<x><x><>b<>", 5},
		{"|x", "axb", "-", "-a-x-b-", 4},
		{"b?$|^", "aab", "<$0>", "<>aa<b><>", 3},
	} {
		mustReplace(t, c.pattern, c.text, c.with, math.MaxInt, c.want, c.count)
		checkReplace(t, c.pattern, c.text, c.with)
	}
	mustReplace(t, "", "ab", "-", 1, "-ab", 1)
	mustReplace(t, "", "ab", "-", 2, "-a-b", 2)
	mustReplace(t, "x*", "axb", "-", 3, "-a--b", 3)
}

func TestReplaceGroupsWithoutSpan(t *testing.T) {
	for _, c := range []struct {
		pattern, text, with string
		want                string
		count               int
	}{
		{"(a)|(b)", "abc", "<$1,$2>", "<a,><,b>c", 2},
		{"(a)|b", "ab", "$1", "a", 2},
		{"(a)?b", "bab", "[$1]", "[][a]", 2},
		{"(a){0}b", "ab", "<$1>", "a<>", 1},
		{"(a)*", "b", "<$1>", "<>b<>", 2},
		{"(a(b)?)+", "abaacab", "<$1$2>", "<ab>c<abb>", 2},
		{"(x)|(y)|(z)|", "yx", "$3$2$1", "yx", 3},
		// Over nothing, which is a span, it gives nothing, too.
		{"(a*)b", "bab", "<$1>", "<><a>", 2},
	} {
		mustReplace(t, c.pattern, c.text, c.with, math.MaxInt, c.want, c.count)
		checkReplace(t, c.pattern, c.text, c.with)
	}
}

func TestReplaceAtMost(t *testing.T) {
	for most, want := range []string{"a,b,c,d", "a;b,c,d", "a;b;c,d", "a;b;c;d", "a;b;c;d", "a;b;c;d"} {
		mustReplace(t, ",", "a,b,c,d", ";", most, want, min(most, 3))
	}
	for _, most := range []int{3, 4, 200, 201, 202, math.MaxInt32, math.MaxInt - 1, math.MaxInt} {
		mustReplace(t, ",", "a,b,c,d", ";", most, "a;b;c;d", 3)
	}
	for _, most := range []int{-1, -2, -3, math.MinInt32, math.MinInt + 1, math.MinInt} {
		mustNotReplace(t, ",", "a,b,c,d", ";", most)
		mustNotReplace(t, "x", "a,b,c,d", ";", most)
		mustNotReplace(t, "", "", "", most)
	}
	mustReplace(t, ",", "", ";", 0, "", 0)
	mustReplace(t, "", "", "-", 0, "", 0)
}

func TestReplaceByTheMatchGivesTheText(t *testing.T) {
	check := func(pattern, text string) {
		t.Helper()
		all := impl.Count(pattern, text)
		for most := range all + 2 {
			mustReplace(t, pattern, text, "$0", most, text, min(most, all))
		}
		mustReplace(t, pattern, text, "$0", math.MaxInt, text, all)
	}
	everyText("ab|()*?^$", 4, func(pattern string) {
		if !impl.ReadPattern(pattern).Ok {
			mustNotReplace(t, pattern, "aab", "$0", 9)
			return
		}
		for _, text := range []string{"", "a", "ba", "aab", "abbaa"} {
			check(pattern, text)
		}
	})
	for seed := range 5000 {
		check(grownPattern(seed+60000, "aabbc.^$"), grownText(seed, "aabbc\n\x00\xff", 12))
	}
	for seed := range 200 {
		pattern, text := grownPattern(seed+60000, "aabbc."), grownText(seed, "aaaaabbbc\n\xff", impl.MaxText)
		mustReplace(t, pattern, text, "$0", impl.MaxText+1, text, impl.Count(pattern, text))
	}
}

// withGroups leaves out of a template the groups that a pattern has not got.
func withGroups(groups int, bits []impl.Bit) string {
	var out string
	for _, bit := range bits {
		if bit.Group <= groups {
			out += strings.ReplaceAll(bit.Text, "$", "$$")
		}
		if 0 <= bit.Group && bit.Group <= groups {
			out += "$" + string("0123456789"[bit.Group])
		}
	}
	return out
}

func TestReplaceByTemplatesOfAllKinds(t *testing.T) {
	groupsSeen := 0
	for seed := range 5000 {
		pattern, text := grownPattern(seed+80000, "aabbc.^$"), grownText(seed, "aabbc\n$\xff", 10)
		bits, _ := grownBits(seed)
		groups := mustRead(t, pattern).Groups
		with := withGroups(groups, bits)
		if groups > 0 && strings.Contains(with, "$1") {
			groupsSeen++
		}
		checkReplace(t, pattern, text, with)
	}
	if groupsSeen < 300 {
		t.Errorf("only %d templates with a group", groupsSeen)
	}
}

// Each byte of the text is known by its place, so that none is lost, changed or moved unseen.
func TestWhatLiesOutsideStays(t *testing.T) {
	every := make([]byte, 256)
	for b := range every {
		every[b] = byte(b)
	}
	low, high := string(every[:impl.MaxText]), string(every[256-impl.MaxText:])
	for _, text := range []string{low, high} {
		for b := range 256 {
			by := string(every[b : b+1])
			want := strings.ReplaceAll(text, by, "<>")
			mustReplace(t, impl.Escape(by), text, "<>", 9, want, strings.Count(text, by))
		}
		mustReplace(t, "[^\\x00-\\xff]", text, "x", 9, text, 0)
		mustReplace(t, "x$|^y", text, "$0$0", 9, text, 0)
	}
	mustReplace(t, "[0-9a-f]+", low, "($0)", 1, low[:'0']+"(0123456789)"+low['9'+1:], 1)
	everyText("a,", 6, func(text string) {
		everyText("a,", 2, func(by string) {
			mustReplace(t, impl.Escape(by), text, "-$$", 9, strings.ReplaceAll(text, by, "-$"), strings.Count(text, by))
		})
	})
}

func TestReplaceByGroupsThatAreNotThere(t *testing.T) {
	for groups := range impl.MaxGroups + 1 {
		pattern := strings.Repeat("(a)", groups) + "b"
		text := strings.Repeat("a", groups) + "bc"
		for group := range 10 {
			with := "<$" + string("0123456789"[group]) + ">"
			for _, most := range []int{0, 1, 9} {
				if group > groups {
					mustNotReplace(t, pattern, text, with, most)
					mustNotReplace(t, pattern, "nothing like it", with, most)
					mustNotReplace(t, pattern, text, "$0"+with, most)
				}
			}
			if group <= groups {
				checkReplace(t, pattern, text, with)
				checkReplace(t, pattern, "nothing like it", with)
			}
		}
	}
	mustReplace(t, "a", "a", "$$1", 1, "$1", 1)
	mustNotReplace(t, "a", "a", "$$$1", 1)
	mustNotReplace(t, "\\(a[()]", "(a)", "$1", 1)
}

func TestReplaceWithoutPattern(t *testing.T) {
	for _, pattern := range []string{
		"[", "*", "a**", "(", ")", "a{51}", "a{2,1}", "\\", "[]", strings.Repeat("a", impl.MaxPattern+1), strings.Repeat("()", impl.MaxGroups+1),
	} {
		for _, text := range []string{"", "a", "a**", strings.Repeat("a", impl.MaxText)} {
			for _, most := range []int{-1, 0, 1, 9} {
				mustNotReplace(t, pattern, text, "x", most)
				mustNotReplace(t, pattern, text, "", most)
				mustNotReplace(t, pattern, text, "$0", most)
			}
		}
	}
	longPattern := strings.Repeat("a", impl.MaxPattern)
	mustReplace(t, longPattern, longPattern+"b", "x", 1, "xb", 1)
}

func TestReplaceInTheLongestText(t *testing.T) {
	longest := strings.Repeat("ab,c", impl.MaxText/4)
	mustReplace(t, ",", longest, "", impl.MaxText, strings.ReplaceAll(longest, ",", ""), impl.MaxText/4)
	mustReplace(t, "x", longest, "y", 1, longest, 0)
	mustReplace(t, "", longest, "", impl.MaxText+1, longest, impl.MaxText+1)
	mustReplace(t, "^.*$", longest, "$0$0", 1, longest+longest, 1)
	// The answer may be longer than a text may.
	mustReplace(t, "^(.*)$", longest, strings.Repeat("$1", impl.MaxTemplate/2), 1, strings.Repeat(longest, impl.MaxTemplate/2), 1)
	with := strings.Repeat("x", impl.MaxTemplate)
	mustReplace(t, "[\\x00-\\xff]", longest, with, impl.MaxText, strings.Repeat(with, impl.MaxText), impl.MaxText)
	for _, pattern := range []string{"", ",", "x", "^", "$", ".*", "["} {
		for _, most := range []int{0, 1, 1000} {
			mustNotReplace(t, pattern, longest+"a", "x", most)
			mustNotReplace(t, pattern, longest+longest, "$0", most)
		}
	}
}

func TestReplaceWithoutTemplate(t *testing.T) {
	long := strings.Repeat("x", impl.MaxTemplate)
	mustReplace(t, "a", "aba", long, 1, long+"ba", 1)
	mustReplace(t, "a", "aba", long[2:]+"$0", 1, long[2:]+"aba", 1)
	for _, with := range []string{"$", "a$", "$x", "$$$", "$0$", "$ 0", "$-1", "${0}", long + "x", long + "$", strings.Repeat("$0", impl.MaxTemplate/2) + "a"} {
		for _, most := range []int{-1, 0, 1, 9} {
			mustNotReplace(t, "a", "aba", with, most)
			mustNotReplace(t, "x", "aba", with, most)
			mustNotReplace(t, "", "", with, most)
		}
	}
}

func TestSameReplaceSameAnswer(t *testing.T) {
	for _, with := range []string{"", "<$2$1$0>", "$", "$3"} {
		for most := -1; most < 4; most++ {
			if impl.Replace("(a)(b)?", "abaa", with, most) != impl.Replace("(a)(b)?", "abaa", with, most) {
				t.Errorf("%q, at most %d: two answers", with, most)
			}
		}
	}
}

func TestReplaceByVeryManyWays(t *testing.T) {
	long := strings.Repeat("a", impl.MaxText)
	for _, pattern := range manyWays() {
		orOne := withNoEnd(pattern) + "|a"
		mustRead(t, orOne)
		inTime(t, pattern, func() {
			mustReplace(t, orOne, long, "<$0>", impl.MaxText, strings.Repeat("<a>", impl.MaxText), impl.MaxText)
			mustReplace(t, orOne, long[1:]+"b", "x", 2, "x", 1)
			mustReplace(t, orOne, long, "x", 0, long, 0)
		})
	}
}
