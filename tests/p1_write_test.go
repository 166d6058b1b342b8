package tests

import (
	"math"
	"strings"
	"testing"

	"loop.example/twist/impl"
)

// checkWritten checks that what is written of a pattern is read as the same one, or is nothing.
func checkWritten(t *testing.T, p impl.Pattern) string {
	t.Helper()
	text := impl.WritePattern(p)
	if text != "" && !samePattern(impl.ReadPattern(text), p) {
		t.Errorf("%v: wrote %q, read as %v", p, text, impl.ReadPattern(text))
	}
	return text
}

func TestWritten(t *testing.T) {
	for text, want := range map[string]string{
		"":                       "",
		"a":                      "a",
		"aZ09_,:=":               "aZ09_,:=",
		"-/!~@\"":                "\\-\\/\\!\\~\\@\\\"",
		"\\.\\*\\(\\[\\]\\^\\\\": "\\.\\*\\(\\[\\]\\^\\\\",
		"\\n\\t\\r\\x41\\x7e":    "\\x0a\\x09\\x0dA\\~",
		"\x00 \x7f\x80\xff":      "\\x00\\x20\\x7f\\x80\\xff",
		"^a$":                    "^a$",
		"|":                      "|",
		"a||b":                   "a||b",
		"(a|(b)())":              "(a|(b)())",
		"()*":                    "(){0,}",
		"^?$+?":                  "^{0,1}${1,}?",
		"a*b+c?":                 "a{0,}b{1,}c{0,1}",
		"a*?b+?c??":              "a{0,}?b{1,}?c{0,1}?",
		"a{3}b{3,}c{3,4}d{3,3}":  "a{3}b{3,}c{3,4}d{3}",
		"a{3}?b{3,}?c{03,4}?":    "a{3}?b{3,}?c{3,4}?",
		"a{0}a{0,0}a{50}":        "a{0}a{0}a{50}",
		"[a]":                    "a",
		"[a-a]":                  "a",
		"[.]":                    "\\.",
		"[ab]":                   "[a-b]",
		"[ca]":                   "[ac]",
		"[fb-da]":                "[a-df]",
		"[]^-]":                  "[\\-\\]-\\^]",
		"\\d\\s":                 "[0-9][\\x09-\\x0a\\x0d\\x20]",
		"\\w":                    "[0-9A-Z_a-z]",
		"[+--]":                  "[\\+-\\-]",
		"[\\x00-\\xff]":          "[\\x00-\\xff]",
		"[^a]":                   "[\\x00-\\`b-\\xff]",
		"[^\\x00-\\xff]*":        "[^\\x00-\\xff]{0,}",
	} {
		p := mustRead(t, text)
		if got := checkWritten(t, p); got != want {
			t.Errorf("%q: wrote %q, want %q", text, got, want)
		}
	}
}

// wantByte is how the document has a byte written.
func wantByte(b int) string {
	text := string([]byte{byte(b)})
	switch {
	case b < 33 || b > 126:
		return "\\x" + string("0123456789abcdef"[b/16]) + string("0123456789abcdef"[b%16])
	case isWord(b) || strings.Contains(",:=", text):
		return text
	}
	return "\\" + text
}

func TestWriteEveryByte(t *testing.T) {
	for b := range 256 {
		one := impl.Pattern{Ok: true, Pieces: []impl.Piece{bytePiece(byte(b)), seqPiece(0)}}
		if got := checkWritten(t, one); got != wantByte(b) {
			t.Errorf("byte %d: wrote %q, want %q", b, got, wantByte(b))
		}
	}
}

func TestWriteEveryRange(t *testing.T) {
	for low := range 256 {
		for high := low + 1; high < 256; high++ {
			set := impl.Piece{Kind: impl.PSet, Set: []impl.Range{{Lo: low, Hi: high}}}
			want := "[" + wantByte(low) + "-" + wantByte(high) + "]"
			if got := checkWritten(t, impl.Pattern{Ok: true, Pieces: []impl.Piece{set, seqPiece(0)}}); got != want {
				t.Errorf("%d to %d: wrote %q, want %q", low, high, got, want)
			}
		}
	}
}

// Every short pattern is written, and what is written is written as it stands.
func TestWriteEveryShortPattern(t *testing.T) {
	for bytes, longest := range map[string]int{
		"()[].{}*?|^$-\\ad1,": 4,
		"[]^-ab":              6,
		"()|*a":               6,
		"a{1,}?":              6,
	} {
		everyText(bytes, longest, func(text string) {
			p := impl.ReadPattern(text)
			if !p.Ok {
				return
			}
			written := checkWritten(t, p)
			if written == "" && text != "" {
				t.Errorf("%q: wrote nothing", text)
			}
			if again := impl.WritePattern(impl.ReadPattern(written)); again != written {
				t.Errorf("%q: wrote %q, and of that %q", text, written, again)
			}
		})
	}
}

func TestWriteAtTheBound(t *testing.T) {
	// A space takes one byte where it is read and four where it is written.
	spaces := strings.Repeat(" ", impl.MaxPattern/4)
	if got := checkWritten(t, mustRead(t, spaces)); got != strings.Repeat("\\x20", impl.MaxPattern/4) {
		t.Errorf("wrote %q", got)
	}
	// A dot takes 20 bytes where it is written, a star 4.
	if got := checkWritten(t, mustRead(t, "."+strings.Repeat("a", 96)+"*")); len(got) != impl.MaxPattern {
		t.Errorf("wrote %q", got)
	}
	for _, text := range []string{spaces + "a", spaces + " ", "." + strings.Repeat("a", 97) + "*", strings.Repeat(".", impl.MaxPattern)} {
		if got := impl.WritePattern(mustRead(t, text)); got != "" {
			t.Errorf("%q: wrote %q", text, got)
		}
	}
	full := strings.Repeat("a", impl.MaxPattern)
	if got := checkWritten(t, mustRead(t, full)); got != full {
		t.Errorf("wrote %q", got)
	}
	bars := strings.Repeat("|", impl.MaxPattern)
	if got := checkWritten(t, mustRead(t, bars)); got != bars {
		t.Errorf("wrote %q", got)
	}
	// As many pieces as a text may have: every group with two seqs and an alt.
	most := strings.Repeat("(|)", impl.MaxGroups) + strings.Repeat("|", impl.MaxPattern-3*impl.MaxGroups)
	if got := checkWritten(t, mustRead(t, most)); got != most {
		t.Errorf("wrote %q", got)
	}
}

func setPiece(ranges ...impl.Range) impl.Piece { return impl.Piece{Kind: impl.PSet, Set: ranges} }

func TestWriteNothing(t *testing.T) {
	a := bytePiece('a')
	for name, pieces := range map[string][]impl.Piece{
		"no pieces":                    {},
		"no seq around":                {a},
		"a kind that is none":          {{Kind: 0}},
		"a kind above":                 {{Kind: 8}, seqPiece(0)},
		"a kind below":                 {{Kind: -1}, seqPiece(0)},
		"a seq in a seq":               {a, seqPiece(0), seqPiece(1)},
		"an alt in a seq":              {seqPiece(), seqPiece(), altPiece(0, 1), seqPiece(2)},
		"an alt of one":                {a, seqPiece(0), altPiece(1)},
		"an alt of none":               {altPiece()},
		"an alt of no seqs":            {a, bytePiece('b'), altPiece(0, 1)},
		"an alt of an alt":             {seqPiece(), seqPiece(), altPiece(0, 1), seqPiece(), altPiece(2, 3)},
		"a group of no seq":            {a, groupPiece(1, 0), seqPiece(1)},
		"a group of none":              {{Kind: impl.PGroup, Num: 1}, seqPiece(0)},
		"a group of two":               {seqPiece(), seqPiece(), {Kind: impl.PGroup, Num: 1, Kids: []int{0, 1}}, seqPiece(2)},
		"a repeat of none":             {{Kind: impl.PRepeat, Max: 1}, seqPiece(0)},
		"a repeat of two":              {a, a, {Kind: impl.PRepeat, Max: 1, Kids: []int{0, 1}}, seqPiece(2)},
		"a repeat of a seq":            {a, seqPiece(0), repeatPiece(1, 2, false, 1), seqPiece(2)},
		"a repeat of nothing":          {seqPiece(), repeatPiece(1, 2, false, 0), seqPiece(1)},
		"a repeat of a repeat":         {a, repeatPiece(1, 2, false, 0), repeatPiece(1, 2, false, 1), seqPiece(2)},
		"a count above MaxCount":       {a, repeatPiece(0, impl.MaxCount+1, false, 0), seqPiece(1)},
		"a least above MaxCount":       {a, repeatPiece(impl.MaxCount+1, -1, false, 0), seqPiece(1)},
		"a count below 0":              {a, repeatPiece(-1, 2, false, 0), seqPiece(1)},
		"counts of -1":                 {a, repeatPiece(-1, -1, false, 0), seqPiece(1)},
		"a bound below -1":             {a, repeatPiece(0, -2, false, 0), seqPiece(1)},
		"a bound below the least":      {a, repeatPiece(3, 2, false, 0), seqPiece(1)},
		"counts out of all bounds":     {a, repeatPiece(math.MinInt, math.MaxInt, true, 0), seqPiece(1)},
		"a byte above 255":             {setPiece(impl.Range{Lo: 97, Hi: 256}), seqPiece(0)},
		"a byte that wraps to a":       {setPiece(impl.Range{Lo: 256 + 97, Hi: 256 + 97}), seqPiece(0)},
		"a byte below 0":               {setPiece(impl.Range{Lo: -1, Hi: 97}), seqPiece(0)},
		"a range out of all bounds":    {setPiece(impl.Range{Lo: math.MinInt, Hi: math.MaxInt}), seqPiece(0)},
		"a range turned round":         {setPiece(impl.Range{Lo: 98, Hi: 97}), seqPiece(0)},
		"ranges that touch":            {setPiece(impl.Range{Lo: 97, Hi: 98}, impl.Range{Lo: 99, Hi: 99}), seqPiece(0)},
		"ranges that overlap":          {setPiece(impl.Range{Lo: 97, Hi: 99}, impl.Range{Lo: 98, Hi: 102}), seqPiece(0)},
		"ranges in another order":      {setPiece(impl.Range{Lo: 99, Hi: 99}, impl.Range{Lo: 97, Hi: 97}), seqPiece(0)},
		"a range twice":                {setPiece(impl.Range{Lo: 97, Hi: 97}, impl.Range{Lo: 97, Hi: 97}), seqPiece(0)},
		"kids in another order":        {a, bytePiece('b'), seqPiece(1, 0)},
		"a kid twice":                  {a, seqPiece(0, 0)},
		"a kid left out":               {a, bytePiece('b'), seqPiece(0)},
		"another kid left out":         {a, bytePiece('b'), seqPiece(1)},
		"a kid that is itself":         {seqPiece(0)},
		"a kid behind":                 {seqPiece(1), a},
		"kids in a ring":               {groupPiece(1, 1), seqPiece(0)},
		"a kid below 0":                {seqPiece(-1)},
		"a kid below the first":        {a, seqPiece(-1, 0)},
		"a kid when none is left":      {a, seqPiece(0), seqPiece(-1, 1)},
		"a kid out of bounds":          {a, seqPiece(1 << 40)},
		"a seq with a set":             {{Kind: impl.PSeq, Set: []impl.Range{{Lo: 97, Hi: 97}}}},
		"a seq with a Min":             {a, {Kind: impl.PSeq, Min: 1, Kids: []int{0}}},
		"a set with a Max":             {{Kind: impl.PSet, Set: a.Set, Max: -1}, seqPiece(0)},
		"a set with a Num":             {{Kind: impl.PSet, Set: a.Set, Num: 1}, seqPiece(0)},
		"a set with kids":              {a, {Kind: impl.PSet, Set: a.Set, Kids: []int{0}}, seqPiece(1)},
		"a start with kids":            {a, {Kind: impl.PStart, Kids: []int{0}}, seqPiece(1)},
		"a start that is lazy":         {{Kind: impl.PStart, Lazy: true}, seqPiece(0)},
		"an end with a set":            {{Kind: impl.PEnd, Set: a.Set}, seqPiece(0)},
		"a repeat with a Num":          {a, {Kind: impl.PRepeat, Max: 1, Num: 1, Kids: []int{0}}, seqPiece(1)},
		"a piece too many at the end":  {a, seqPiece(0), {Kind: impl.PStart}},
		"a piece too many ahead":       {a, bytePiece('b'), seqPiece(1)},
		"a seq too many ahead of them": {seqPiece(), a, seqPiece(1)},
	} {
		if got := impl.WritePattern(impl.Pattern{Ok: true, Pieces: pieces}); got != "" {
			t.Errorf("%s: wrote %q", name, got)
		}
	}
}

func TestWriteNothingOfOtherHeads(t *testing.T) {
	right := mustRead(t, "(a)(b)")
	if checkWritten(t, right) != "(a)(b)" {
		t.Error("a right one is not written")
	}
	for name, change := range map[string]func(p *impl.Pattern){
		"not Ok":           func(p *impl.Pattern) { p.Ok = false },
		"a place":          func(p *impl.Pattern) { p.At = 1 },
		"too many groups":  func(p *impl.Pattern) { p.Groups = 3 },
		"too few groups":   func(p *impl.Pattern) { p.Groups = 0 },
		"a group number 0": func(p *impl.Pattern) { p.Pieces[2].Num = 0 },
		"numbers the same": func(p *impl.Pattern) { p.Pieces[2].Num = 2 },
		"numbers swapped":  func(p *impl.Pattern) { p.Pieces[2].Num, p.Pieces[5].Num = 2, 1 },
		"no pieces":        func(p *impl.Pattern) { p.Pieces = nil },
	} {
		p := copyPattern(right)
		change(&p)
		if got := impl.WritePattern(p); got != "" {
			t.Errorf("%s: wrote %q", name, got)
		}
	}
	for _, text := range []string{"*", "a)", "(", strings.Repeat("a", impl.MaxPattern+1)} {
		if got := impl.WritePattern(impl.ReadPattern(text)); got != "" {
			t.Errorf("%q: wrote %q", text, got)
		}
	}
}

// groupsOf is a pattern of groups in one another, or behind one another, without being read.
func groupsOf(deep, behind int) impl.Pattern {
	p := impl.Pattern{Ok: true, Groups: deep * behind}
	var kids []int
	for i := range behind {
		p.Pieces = append(p.Pieces, seqPiece())
		for d := range deep {
			p.Pieces = append(p.Pieces, groupPiece(i*deep+deep-d, len(p.Pieces)-1))
			if d < deep-1 {
				p.Pieces = append(p.Pieces, seqPiece(len(p.Pieces)-1))
			}
		}
		kids = append(kids, len(p.Pieces)-1)
	}
	p.Pieces = append(p.Pieces, seqPiece(kids...))
	return p
}

func TestWriteGroupsAtTheirBounds(t *testing.T) {
	if got := checkWritten(t, groupsOf(impl.MaxDeep, 1)); got != "(((((())))))" {
		t.Errorf("wrote %q", got)
	}
	if got := checkWritten(t, groupsOf(1, impl.MaxGroups)); got != "()()()()()()()()()" {
		t.Errorf("wrote %q", got)
	}
	if got := impl.WritePattern(groupsOf(impl.MaxDeep+1, 1)); got != "" {
		t.Errorf("too deep: wrote %q", got)
	}
	if got := impl.WritePattern(groupsOf(1, impl.MaxGroups+1)); got != "" {
		t.Errorf("too many: wrote %q", got)
	}
}

// These would take all time or memory if kids were followed blindly.
func TestWriteEndsOnHugeValues(t *testing.T) {
	doubled := []impl.Piece{seqPiece()}
	for i := range 100 {
		doubled = append(doubled, seqPiece(i, i))
	}
	chain := []impl.Piece{seqPiece()}
	for i := range 2000000 {
		chain = append(chain, seqPiece(i))
	}
	wide := []impl.Piece{{Kind: impl.PSeq, Kids: make([]int, 2000000)}}
	ranges := []impl.Piece{{Kind: impl.PSet, Set: make([]impl.Range, 200000)}, seqPiece(0)}
	for _, pieces := range [][]impl.Piece{doubled, chain, chain[:200], wide, ranges, make([]impl.Piece, 1000000)} {
		if got := impl.WritePattern(impl.Pattern{Ok: true, Pieces: pieces}); got != "" {
			t.Errorf("%d pieces: wrote %q", len(pieces), got)
		}
	}
}

// changes gives p with one thing in it changed, in many ways.
func changes(p impl.Pattern, do func(changed impl.Pattern)) {
	edit := func(i int, change func(piece *impl.Piece)) {
		changed := copyPattern(p)
		change(&changed.Pieces[i])
		do(changed)
	}
	for i := range p.Pieces {
		for kind := -1; kind <= 8; kind++ {
			edit(i, func(piece *impl.Piece) { piece.Kind = kind })
		}
		for _, step := range []int{-1, 1, 50, -50} {
			edit(i, func(piece *impl.Piece) { piece.Min += step })
			edit(i, func(piece *impl.Piece) { piece.Max += step })
			edit(i, func(piece *impl.Piece) { piece.Num += step })
			for k := range p.Pieces[i].Kids {
				edit(i, func(piece *impl.Piece) { piece.Kids[k] += step })
			}
			for k := range p.Pieces[i].Set {
				edit(i, func(piece *impl.Piece) { piece.Set[k].Lo += step })
				edit(i, func(piece *impl.Piece) { piece.Set[k].Hi += step })
			}
		}
		edit(i, func(piece *impl.Piece) { piece.Lazy = !piece.Lazy })
		edit(i, func(piece *impl.Piece) { piece.Kids = nil })
		edit(i, func(piece *impl.Piece) { piece.Set = nil })
		edit(i, func(piece *impl.Piece) { piece.Kids = append(piece.Kids, i-1) })
		edit(i, func(piece *impl.Piece) { piece.Set = append(piece.Set, impl.Range{Lo: 200, Hi: 210}) })
		edit(i, func(piece *impl.Piece) { *piece = p.Pieces[0] })
	}
}

// What is written is read as what was given, however that came about.
func TestWriteChangedPatterns(t *testing.T) {
	written := 0
	for seed := range 300 {
		m := made{chooser: chooser{uint64(seed)}}
		m.pattern()
		p := impl.Pattern{Ok: true, Groups: m.groups, Pieces: m.pieces}
		changes(p, func(changed impl.Pattern) {
			if checkWritten(t, changed) != "" {
				written++
			}
		})
	}
	if written < 100 {
		t.Errorf("only %d changed patterns were written", written)
	}
}
