package tests

import (
	"testing"

	"loop.example/twist/impl"
)

const memoryText = "(a|[bc-e])*?(^x{2,3}|)$\\w\\s."

// Each list is filled to its capacity with a number of its own: were memory shared, one would lose its own.
func TestAnswerSharesNoMemory(t *testing.T) {
	p, other := mustRead(t, memoryText), mustRead(t, memoryText)
	kept := copyPattern(other)
	for i, piece := range p.Pieces {
		kids, set := piece.Kids[:cap(piece.Kids)], piece.Set[:cap(piece.Set)]
		for k := range kids {
			kids[k] = 1000 + i
		}
		for k := range set {
			set[k] = impl.Range{Lo: 1000 + i, Hi: 1000 + i}
		}
	}
	for i, piece := range p.Pieces {
		for _, kid := range piece.Kids[:cap(piece.Kids)] {
			if kid != 1000+i {
				t.Fatalf("the kids of piece %d are also those of piece %d", i, kid-1000)
			}
		}
		for _, r := range piece.Set[:cap(piece.Set)] {
			if r.Lo != 1000+i || r.Hi != 1000+i {
				t.Fatalf("the set of piece %d is also that of piece %d", i, r.Lo-1000)
			}
		}
	}
	if !samePattern(other, kept) || !samePattern(mustRead(t, memoryText), kept) {
		t.Error("two answers share memory")
	}
}

func TestWriteChangesNoArgument(t *testing.T) {
	p := mustRead(t, memoryText)
	for i := range p.Pieces {
		p.Pieces[i].Kids = append(make([]int, 0, 100), p.Pieces[i].Kids...)
		p.Pieces[i].Set = append(make([]impl.Range, 0, 300), p.Pieces[i].Set...)
	}
	kept := copyPattern(p)
	first := impl.WritePattern(p)
	if first == "" || first != impl.WritePattern(p) {
		t.Error("the same argument has another answer")
	}
	if !samePattern(p, kept) {
		t.Error("the argument was changed")
	}
	for i, piece := range p.Pieces {
		for _, kid := range piece.Kids[len(piece.Kids):cap(piece.Kids)] {
			if kid != 0 {
				t.Fatalf("written behind the kids of piece %d", i)
			}
		}
		for _, r := range piece.Set[len(piece.Set):cap(piece.Set)] {
			if r != (impl.Range{}) {
				t.Fatalf("written behind the set of piece %d", i)
			}
		}
	}
}

func TestSameTextSameAnswer(t *testing.T) {
	for _, text := range []string{"", memoryText, "(a", "a{51}", "[b-a]"} {
		if !samePattern(impl.ReadPattern(text), impl.ReadPattern(text)) {
			t.Errorf("%q: two answers", text)
		}
	}
}
