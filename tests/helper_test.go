package tests

import (
	"slices"
	"testing"

	"loop.example/twist/impl"
)

// samePattern takes an empty list and nil as the same, as the document does.
func samePattern(a, b impl.Pattern) bool {
	return a.Ok == b.Ok && a.At == b.At && a.Groups == b.Groups && slices.EqualFunc(a.Pieces, b.Pieces, samePiece)
}

func samePiece(a, b impl.Piece) bool {
	return a.Kind == b.Kind && a.Min == b.Min && a.Max == b.Max && a.Lazy == b.Lazy && a.Num == b.Num &&
		slices.Equal(a.Set, b.Set) && slices.Equal(a.Kids, b.Kids)
}

// copyPattern shares no memory with p, so that what is done to one is not seen in the other.
func copyPattern(p impl.Pattern) impl.Pattern {
	p.Pieces = slices.Clone(p.Pieces)
	for i := range p.Pieces {
		p.Pieces[i].Set = slices.Clone(p.Pieces[i].Set)
		p.Pieces[i].Kids = slices.Clone(p.Pieces[i].Kids)
	}
	return p
}

func bytePiece(b byte) impl.Piece {
	return impl.Piece{Kind: impl.PSet, Set: []impl.Range{{Lo: int(b), Hi: int(b)}}}
}

func seqPiece(kids ...int) impl.Piece { return impl.Piece{Kind: impl.PSeq, Kids: kids} }

func altPiece(kids ...int) impl.Piece { return impl.Piece{Kind: impl.PAlt, Kids: kids} }

func groupPiece(num, kid int) impl.Piece {
	return impl.Piece{Kind: impl.PGroup, Num: num, Kids: []int{kid}}
}

func repeatPiece(least, most int, lazy bool, kid int) impl.Piece {
	return impl.Piece{Kind: impl.PRepeat, Min: least, Max: most, Lazy: lazy, Kids: []int{kid}}
}

// rangesOf gives the bytes for which in holds, byte by byte, as ranges that do not touch.
func rangesOf(in func(b int) bool) []impl.Range {
	var out []impl.Range
	for low := 0; low < 256; low++ {
		if !in(low) {
			continue
		}
		high := low
		for high < 255 && in(high+1) {
			high++
		}
		out = append(out, impl.Range{Lo: low, Hi: high})
		low = high
	}
	return out
}

func among(bytes string) func(b int) bool {
	return func(b int) bool { return slices.Contains([]byte(bytes), byte(b)) }
}

func not(in func(b int) bool) func(b int) bool {
	return func(b int) bool { return !in(b) }
}

func within(low, high int) func(b int) bool {
	return func(b int) bool { return low <= b && b <= high }
}

func either(ins ...func(b int) bool) func(b int) bool {
	return func(b int) bool {
		return slices.ContainsFunc(ins, func(in func(b int) bool) bool { return in(b) })
	}
}

func isDigit(b int) bool { return '0' <= b && b <= '9' }

func isLetter(b int) bool { return 'a' <= b && b <= 'z' || 'A' <= b && b <= 'Z' }

func isWord(b int) bool { return isDigit(b) || isLetter(b) || b == '_' }

// mustFail checks the place of a fault, and that nothing else is told.
func mustFail(t *testing.T, text string, at int) {
	t.Helper()
	if got := impl.ReadPattern(text); !samePattern(got, impl.Pattern{At: at}) {
		t.Errorf("%q: got %v, want a fault at %d", text, got, at)
	}
}

func mustRead(t *testing.T, text string) impl.Pattern {
	t.Helper()
	p := impl.ReadPattern(text)
	if !p.Ok {
		t.Errorf("%q: refused at %d", text, p.At)
	}
	return p
}

// mustReadSet checks that the text is one set of just these bytes.
func mustReadSet(t *testing.T, text string, in func(b int) bool) {
	t.Helper()
	want := impl.Pattern{Ok: true, Pieces: []impl.Piece{{Kind: impl.PSet, Set: rangesOf(in)}, seqPiece(0)}}
	if got := impl.ReadPattern(text); !samePattern(got, want) {
		t.Errorf("%q: got %v, want %v", text, got, want)
	}
}

// everyText calls do with each text of at most longest of these bytes.
func everyText(bytes string, longest int, do func(text string)) {
	var grow func(text string)
	grow = func(text string) {
		do(text)
		if len(text) == longest {
			return
		}
		for i := range len(bytes) {
			grow(text + bytes[i:i+1])
		}
	}
	grow("")
}

// chooser makes the same choices in every run, so that a failure comes again.
type chooser struct{ state uint64 }

func (c *chooser) below(n int) int {
	c.state = c.state*6364136223846793005 + 1442695040888963407
	return int((c.state >> 33) % uint64(n))
}
