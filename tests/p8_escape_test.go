package tests

import (
	"strings"
	"testing"

	"loop.example/twist/impl"
)

// bytesPattern is the pattern of just a text: its bytes, one behind the other, and nothing else.
func bytesPattern(text string) impl.Pattern {
	p := impl.Pattern{Ok: true}
	var kids []int
	for i := range len(text) {
		p.Pieces = append(p.Pieces, bytePiece(text[i]))
		kids = append(kids, i)
	}
	p.Pieces = append(p.Pieces, seqPiece(kids...))
	return p
}

// checkEscape checks that the escape is read as the text, and is what WritePattern writes of that.
func checkEscape(t *testing.T, text string) {
	t.Helper()
	got := impl.Escape(text)
	if !samePattern(impl.ReadPattern(got), bytesPattern(text)) {
		t.Errorf("%q: %q is read as %v", text, got, impl.ReadPattern(got))
	}
	if written := impl.WritePattern(bytesPattern(text)); written != got {
		t.Errorf("%q: escaped %q, written %q", text, got, written)
	}
}

func TestEscapeEveryByte(t *testing.T) {
	for b := range 256 {
		text := string([]byte{byte(b)})
		if got := impl.Escape(text); got != wantByte(b) {
			t.Errorf("byte %d: %q, want %q", b, got, wantByte(b))
		}
		checkEscape(t, text)
	}
}

func TestEscapeEveryPair(t *testing.T) {
	for a := range 256 {
		for b := range 256 {
			text := string([]byte{byte(a), byte(b)})
			if got := impl.Escape(text); got != wantByte(a)+wantByte(b) {
				t.Errorf("%q: %q", text, got)
			}
			checkEscape(t, text)
		}
	}
}

func TestEscapeTexts(t *testing.T) {
	for text, want := range map[string]string{
		"":                 "",
		"abc XYZ_09":       "abc\\x20XYZ_09",
		"a{2,}?":           "a\\{2,\\}\\?",
		"(a|b)*[^c-d]$":    "\\(a\\|b\\)\\*\\[\\^c\\-d\\]\\$",
		"\\d\\x41":         "\\\\d\\\\x41",
		"k=v: 1,2":         "k=v:\\x201,2",
		"\"'`~!@#%&/<>;":   "\\\"\\'\\`\\~\\!\\@\\#\\%\\&\\/\\<\\>\\;",
		"\x00\t\n\r\x1f ":  "\\x00\\x09\\x0a\\x0d\\x1f\\x20",
		"\x7f\x80\xc3\xff": "\\x7f\\x80\\xc3\\xff",
	} {
		if got := impl.Escape(text); got != want {
			t.Errorf("%q: %q, want %q", text, got, want)
		}
		checkEscape(t, text)
	}
}

// Every text of at most 28 bytes has an escape, as no byte takes more than four.
func TestEscapeOfAllShortTexts(t *testing.T) {
	c := chooser{8}
	for range 5000 {
		text := make([]byte, c.below(29))
		for i := range text {
			text[i] = byte(c.below(256))
		}
		checkEscape(t, string(text))
	}
	for b := range 256 {
		checkEscape(t, strings.Repeat(string([]byte{byte(b)}), 28))
	}
}

func TestEscapeAtTheBound(t *testing.T) {
	for _, text := range []string{
		strings.Repeat("a", impl.MaxPattern),
		strings.Repeat(".", impl.MaxPattern/2),
		strings.Repeat("\x00", impl.MaxPattern/4),
		strings.Repeat("\xff", 29) + "ab.",
	} {
		if got := impl.Escape(text); len(got) != impl.MaxPattern {
			t.Errorf("%q: %q", text, got)
		}
		checkEscape(t, text)
		for _, more := range []string{"a", ".", "\x00"} {
			if got := impl.Escape(text + more); got != "" {
				t.Errorf("%q: %q", text+more, got)
			}
			if got := impl.Escape(more + text); got != "" {
				t.Errorf("%q: %q", more+text, got)
			}
		}
	}
	// One byte short of the bound, a byte that takes two passes it.
	if got := impl.Escape(strings.Repeat("a", impl.MaxPattern-1) + "."); got != "" {
		t.Errorf("%q", got)
	}
	if got := impl.Escape(strings.Repeat("a", 1<<24)); got != "" {
		t.Errorf("%q", got)
	}
}

// checkOnlyItself checks that a text is whole for its escape, and that none is that differs from it a little.
func checkOnlyItself(t *testing.T, text string, others []byte) {
	t.Helper()
	pattern := impl.Escape(text)
	want := impl.Match{Ok: true, To: len(text)}
	if got := impl.Whole(pattern, text); !sameMatch(got, want) {
		t.Errorf("%q: %v", text, got)
	}
	none := func(other string) {
		t.Helper()
		if got := impl.Whole(pattern, other); other != text && !sameMatch(got, impl.Match{}) {
			t.Errorf("%q is whole for the escape of %q: %v", other, text, got)
		}
	}
	for i := range len(text) + 1 {
		for _, b := range others {
			none(text[:i] + string([]byte{b}) + text[i:])
			if i < len(text) {
				none(text[:i] + string([]byte{b}) + text[i+1:])
			}
		}
		none(text[:i])
		none(text[i:])
		none(text[:i] + text)
	}
}

func TestOnlyTheTextIsWholeForItsEscape(t *testing.T) {
	every := make([]byte, 256)
	for b := range every {
		every[b] = byte(b)
	}
	checkOnlyItself(t, "", every)
	for b := range 256 {
		checkOnlyItself(t, string(every[b:b+1]), every)
	}
	c := chooser{88}
	for range 500 {
		text := make([]byte, c.below(29))
		for i := range text {
			text[i] = byte(c.below(256))
		}
		checkOnlyItself(t, string(text), []byte{0, '\n', 'a', '\\', '.', byte(c.below(256))})
	}
	for _, text := range []string{"(a|b)*[^c-d]$", "\\d\\x41a{2,}?", "^$", "aaaaaaaaaaaaaaaaaaaaaaaaaaaa", "\x00\xff\n\r\t \x7f.*+?()[]{}|\\^$-_,:"} {
		checkOnlyItself(t, text, every)
	}
}
