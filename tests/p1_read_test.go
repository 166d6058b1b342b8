package tests

import (
	"testing"

	"loop.example/twist/impl"
)

func TestReadPieces(t *testing.T) {
	start, end := impl.Piece{Kind: impl.PStart}, impl.Piece{Kind: impl.PEnd}
	for _, c := range []struct {
		text   string
		groups int
		pieces []impl.Piece
	}{
		{"", 0, []impl.Piece{seqPiece()}},
		{"a", 0, []impl.Piece{bytePiece('a'), seqPiece(0)}},
		{"a,-", 0, []impl.Piece{bytePiece('a'), bytePiece(','), bytePiece('-'), seqPiece(0, 1, 2)}},
		{"|", 0, []impl.Piece{seqPiece(), seqPiece(), altPiece(0, 1)}},
		{"a||b", 0, []impl.Piece{bytePiece('a'), seqPiece(0), seqPiece(), bytePiece('b'), seqPiece(3), altPiece(1, 2, 4)}},
		{"^a$", 0, []impl.Piece{start, bytePiece('a'), end, seqPiece(0, 1, 2)}},
		{"^*$+?", 0, []impl.Piece{start, repeatPiece(0, -1, false, 0), end, repeatPiece(1, -1, true, 2), seqPiece(1, 3)}},
		{"()", 1, []impl.Piece{seqPiece(), groupPiece(1, 0), seqPiece(1)}},
		{"(a)*?", 1, []impl.Piece{bytePiece('a'), seqPiece(0), groupPiece(1, 1), repeatPiece(0, -1, true, 2), seqPiece(3)}},
		{"(a|b)c", 1, []impl.Piece{
			bytePiece('a'), seqPiece(0), bytePiece('b'), seqPiece(2), altPiece(1, 3), groupPiece(1, 4), bytePiece('c'), seqPiece(5, 6),
		}},
		// The outer group begins first and ends last.
		{"((a)())(b)", 4, []impl.Piece{
			bytePiece('a'), seqPiece(0), groupPiece(2, 1), seqPiece(), groupPiece(3, 3), seqPiece(2, 4), groupPiece(1, 5),
			bytePiece('b'), seqPiece(7), groupPiece(4, 8), seqPiece(6, 9),
		}},
		{"(a)|(b)", 2, []impl.Piece{
			bytePiece('a'), seqPiece(0), groupPiece(1, 1), seqPiece(2), bytePiece('b'), seqPiece(4), groupPiece(2, 5), seqPiece(6), altPiece(3, 7),
		}},
	} {
		want := impl.Pattern{Ok: true, Groups: c.groups, Pieces: c.pieces}
		if got := impl.ReadPattern(c.text); !samePattern(got, want) {
			t.Errorf("%q: got %v, want %v", c.text, got, want)
		}
	}
}

func TestReadCounts(t *testing.T) {
	for _, c := range []struct {
		counts      string
		least, most int
	}{
		{"*", 0, -1}, {"+", 1, -1}, {"?", 0, 1},
		{"{0}", 0, 0}, {"{3}", 3, 3}, {"{50}", 50, 50}, {"{007}", 7, 7}, {"{0000000000000000000000000050}", 50, 50},
		{"{0,}", 0, -1}, {"{3,}", 3, -1}, {"{50,}", 50, -1},
		{"{0,0}", 0, 0}, {"{3,7}", 3, 7}, {"{3,3}", 3, 3}, {"{9,10}", 9, 10}, {"{50,50}", 50, 50}, {"{0,50}", 0, 50}, {"{1,0002}", 1, 2},
	} {
		for _, lazy := range []bool{false, true} {
			text := "a" + c.counts
			if lazy {
				text += "?"
			}
			want := impl.Pattern{Ok: true, Pieces: []impl.Piece{bytePiece('a'), repeatPiece(c.least, c.most, lazy, 0), seqPiece(1)}}
			if got := impl.ReadPattern(text); !samePattern(got, want) {
				t.Errorf("%q: got %v, want %v", text, got, want)
			}
		}
	}
}

func TestReadEveryByteAsAtom(t *testing.T) {
	for b := range 256 {
		text := string([]byte{byte(b)})
		switch b {
		case '(', '[', '\\':
			mustFail(t, text, 1)
		case ')', ']', '{', '}', '*', '+', '?':
			mustFail(t, text, 0)
		case '|', '^', '$':
			mustRead(t, text)
		case '.':
			mustReadSet(t, text, not(among("\n")))
		default:
			mustReadSet(t, text, within(b, b))
		}
	}
}

func TestReadEveryEscape(t *testing.T) {
	known := map[int]func(b int) bool{
		'd': isDigit, 'w': isWord, 's': among("\t\n\r "), 'n': among("\n"), 't': among("\t"), 'r': among("\r"),
	}
	for b := range 256 {
		text := "\\" + string([]byte{byte(b)})
		in := known[b]
		if in == nil && b >= 33 && b <= 126 && !isLetter(b) && !isDigit(b) {
			in = within(b, b)
		}
		switch {
		case in != nil:
			mustReadSet(t, text, in)
			mustReadSet(t, "["+text+"]", in)
			mustReadSet(t, "[^"+text+"]", not(in))
		case b == 'x':
			mustFail(t, text, 2)
			mustFail(t, "["+text+"]", 3)
		default:
			mustFail(t, text, 1)
			mustFail(t, "["+text+"]", 2)
		}
	}
}

func TestReadEveryHexEscape(t *testing.T) {
	digit := func(b int) int {
		switch {
		case isDigit(b):
			return b - '0'
		case 'a' <= b && b <= 'f':
			return b - 'a' + 10
		}
		return -1
	}
	for high := range 256 {
		for low := range 256 {
			text := "\\x" + string([]byte{byte(high), byte(low)})
			switch {
			case digit(high) < 0:
				mustFail(t, text, 2)
			case digit(low) < 0:
				mustFail(t, text, 3)
			default:
				b := digit(high)*16 + digit(low)
				mustReadSet(t, text, within(b, b))
			}
		}
	}
}

func TestReadEveryByteInSet(t *testing.T) {
	for b := range 256 {
		text := "[" + string([]byte{byte(b)}) + "]"
		if b == '\\' || b == '^' {
			mustFail(t, text, 3)
			continue
		}
		mustReadSet(t, text, within(b, b))
		mustReadSet(t, "[^"+text[1:], not(within(b, b)))
	}
}

func TestReadSets(t *testing.T) {
	for text, in := range map[string]func(b int) bool{
		"[ba]":              among("ab"),
		"[a-cd-f]":          within('a', 'f'),
		"[c-ea-dd]":         within('a', 'e'),
		"[ac]":              among("ac"),
		"[a-a]":             among("a"),
		"[.*+?|(){}$[]":     among(".*+?|(){}$["),
		"[a^]":              among("a^"),
		"[^^]":              not(among("^")),
		"[^a-c]":            not(within('a', 'c')),
		"[\\^a]":            among("^a"),
		"[\\x00-\\xff]":     within(0, 255),
		"[^\\x00-\\xff]":    among(""),
		"[\\w\\s]":          either(isWord, among("\t\n\r ")),
		"[^\\d\\n]":         not(either(isDigit, among("\n"))),
		"[\\x41-\\x43]":     within('A', 'C'),
		"[\\t-\\r]":         within(9, 13),
		"[\\--\\/]":         within('-', '/'),
		"[A-\\]]":           within('A', ']'),
		"[\x80-\xff]":       within(128, 255),
		"[]]":               among("]"),
		"[^]]":              not(among("]")),
		"[]a]":              among("]a"),
		"[^]a]":             not(among("]a")),
		"[]-a]":             within(']', 'a'),
		"[^]-a]":            not(within(']', 'a')),
		"[]-]":              among("]-"),
		"[^]-]":             not(among("]-")),
		"[-]":               among("-"),
		"[^-]":              not(among("-")),
		"[--]":              among("-"),
		"[---]":             among("-"),
		"[-a]":              among("-a"),
		"[^-a]":             not(among("-a")),
		"[a-]":              among("a-"),
		"[ab-]":             among("ab-"),
		"[a-c-]":            among("abc-"),
		"[a-c-e]":           among("abc-e"),
		"[a-c-e-g]":         among("abc-efg"),
		"[--a]":             within('-', 'a'),
		"[a-c--/]":          either(within('a', 'c'), within('-', '/')),
		"[+--]":             within('+', '-'),
		"[\\d-]":            either(isDigit, among("-")),
		"[\\d-f]":           either(isDigit, among("-f")),
		"[\\d-\\w]":         either(isWord, among("-")),
		"[\\s-~]":           among("\t\n\r -~"),
		"[\\w-~]":           either(isWord, among("-~")),
		"[\\d--/]":          either(isDigit, within('-', '/')),
		"[\\x2d-\\x2f]":     within('-', '/'),
		"[a\\-c]":           among("a-c"),
		"[a-\\x63\\]\\\\^]": either(within('a', 'c'), among("]\\^")),
	} {
		mustReadSet(t, text, in)
	}
}

// made is a pattern made from its pieces: text and pieces side by side, without reading.
type made struct {
	chooser
	text   []byte
	pieces []impl.Piece
	groups int
	deep   int
}

func (m *made) add(p impl.Piece) int {
	m.pieces = append(m.pieces, p)
	return len(m.pieces) - 1
}

func (m *made) put(text string) { m.text = append(m.text, text...) }

func (m *made) pattern() int {
	seqs := []int{m.seq()}
	for m.below(3) == 0 {
		m.put("|")
		seqs = append(seqs, m.seq())
	}
	if len(seqs) == 1 {
		return seqs[0]
	}
	return m.add(altPiece(seqs...))
}

func (m *made) seq() int {
	var parts []int
	for m.below(5) > 1 && len(m.text) < impl.MaxPattern {
		parts = append(parts, m.counts(m.atom()))
	}
	return m.add(seqPiece(parts...))
}

func (m *made) counts(atom int) int {
	counts := []struct {
		text        string
		least, most int
	}{{"*", 0, -1}, {"+", 1, -1}, {"?", 0, 1}, {"{4}", 4, 4}, {"{04,}", 4, -1}, {"{4,12}", 4, 12}}
	i := m.below(2 * len(counts))
	if i >= len(counts) {
		return atom
	}
	m.put(counts[i].text)
	lazy := m.below(2) == 0
	if lazy {
		m.put("?")
	}
	return m.add(repeatPiece(counts[i].least, counts[i].most, lazy, atom))
}

func (m *made) atom() int {
	plain := "ab,-:=!\"#%&'/;<>@_`~\x00\n \x7f\xff"
	switch m.below(6) {
	case 0:
		m.put("^")
		return m.add(impl.Piece{Kind: impl.PStart})
	case 1:
		m.put("$")
		return m.add(impl.Piece{Kind: impl.PEnd})
	case 2, 3:
		if m.groups < impl.MaxGroups && m.deep < impl.MaxDeep {
			return m.group()
		}
	case 4:
		return m.set()
	}
	b := plain[m.below(len(plain))]
	m.text = append(m.text, b)
	return m.add(bytePiece(b))
}

func (m *made) group() int {
	m.groups++
	m.deep++
	num := m.groups
	m.put("(")
	body := m.pattern()
	m.put(")")
	m.deep--
	return m.add(groupPiece(num, body))
}

func (m *made) set() int {
	items := []struct {
		text string
		in   func(b int) bool
	}{
		{"x", among("x")}, {"c-f", within('c', 'f')}, {"\\d", isDigit}, {"\\w-", either(isWord, among("-"))},
		{"\\x1f-\\!", within(31, '!')}, {"!-~", within('!', '~')}, {"\\]", among("]")}, {"^", among("^")}, {"\\n", among("\n")},
	}
	none := m.below(2) == 0
	m.put("[")
	if none {
		m.put("^")
	}
	first := []string{"]", "-", "q"}[m.below(3)]
	m.put(first)
	in := among(first)
	for m.below(2) == 0 {
		item := items[m.below(len(items))]
		m.put(item.text)
		in = either(in, item.in)
	}
	if m.below(4) == 0 {
		m.put("-")
		in = either(in, among("-"))
	}
	m.put("]")
	if none {
		in = not(in)
	}
	return m.add(impl.Piece{Kind: impl.PSet, Set: rangesOf(in)})
}

func TestReadMadePatterns(t *testing.T) {
	read := 0
	for seed := range 20000 {
		m := made{chooser: chooser{uint64(seed)}}
		m.pattern()
		text := string(m.text)
		if len(text) > impl.MaxPattern {
			mustFail(t, text, impl.MaxPattern)
			continue
		}
		read++
		want := impl.Pattern{Ok: true, Groups: m.groups, Pieces: m.pieces}
		got := impl.ReadPattern(text)
		if !samePattern(got, want) {
			t.Fatalf("%q: got %v, want %v", text, got, want)
		}
		checkWritten(t, got)
	}
	if read < 10000 {
		t.Errorf("only %d patterns were short enough", read)
	}
}
