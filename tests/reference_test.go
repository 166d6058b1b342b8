package tests

import (
	"slices"
	"testing"

	"loop.example/twist/impl"
)

// reference goes through the ways of a pattern one by one, by the words of the
// document's chapter 2 and without a shortcut. It gives up when there are too many.
type reference struct {
	pieces []impl.Piece
	text   string
	steps  int
}

const referenceSteps = 20000

type tooMany struct{}

// onward is what comes behind a way.
type onward func(to int, groups []impl.Span)

// referenceWays answers false when there are too many ways to go through.
func referenceWays(p impl.Pattern, text string, from int) (out []impl.Match, ok bool) {
	defer func() {
		switch caught := recover().(type) {
		case nil:
		case tooMany:
			out, ok = nil, false
		default:
			panic(caught)
		}
	}()
	r := reference{pieces: p.Pieces, text: text}
	var seen []int
	r.ways(len(p.Pieces)-1, from, spans(p.Groups), func(to int, groups []impl.Span) {
		if !slices.Contains(seen, to) {
			seen = append(seen, to)
			out = append(out, impl.Match{Ok: true, From: from, To: to, Groups: groups})
		}
	})
	return out, true
}

// spans gives as many groups that are not passed.
func spans(groups int) []impl.Span { return slices.Repeat([]impl.Span{{From: -1, To: -1}}, groups) }

func (r *reference) ways(piece, at int, groups []impl.Span, then onward) {
	r.steps++
	if r.steps > referenceSteps {
		panic(tooMany{})
	}
	switch p := r.pieces[piece]; p.Kind {
	case impl.PSet:
		if at < len(r.text) && inSet(p.Set, int(r.text[at])) {
			then(at+1, groups)
		}
	case impl.PStart:
		if at == 0 {
			then(at, groups)
		}
	case impl.PEnd:
		if at == len(r.text) {
			then(at, groups)
		}
	case impl.PSeq:
		r.seq(p.Kids, at, groups, then)
	case impl.PAlt:
		for _, kid := range p.Kids {
			r.ways(kid, at, groups, then)
		}
	case impl.PGroup:
		r.ways(p.Kids[0], at, groups, func(to int, groups []impl.Span) {
			groups = slices.Clone(groups)
			groups[p.Num-1] = impl.Span{From: at, To: to}
			then(to, groups)
		})
	case impl.PRepeat:
		left := -1
		if p.Max >= 0 {
			left = p.Max - p.Min
		}
		r.seq(slices.Repeat(p.Kids, p.Min), at, groups, func(to int, groups []impl.Span) {
			r.more(p, left, to, groups, then)
		})
	}
}

func inSet(set []impl.Range, b int) bool {
	return slices.ContainsFunc(set, func(r impl.Range) bool { return r.Lo <= b && b <= r.Hi })
}

func (r *reference) seq(kids []int, at int, groups []impl.Span, then onward) {
	if len(kids) == 0 {
		then(at, groups)
		return
	}
	r.ways(kids[0], at, groups, func(to int, groups []impl.Span) {
		r.seq(kids[1:], to, groups, then)
	})
}

// more takes the kid up to left times, without bound for -1.
func (r *reference) more(p impl.Piece, left, at int, groups []impl.Span, then onward) {
	if p.Lazy {
		then(at, groups)
	}
	if left != 0 {
		r.ways(p.Kids[0], at, groups, func(to int, groups []impl.Span) {
			if to > at {
				r.more(p, left-1, to, groups, then)
			}
		})
	}
	if !p.Lazy {
		then(at, groups)
	}
}

func sameMatch(a, b impl.Match) bool {
	return a.Ok == b.Ok && a.From == b.From && a.To == b.To && slices.Equal(a.Groups, b.Groups)
}

func sameMatches(a, b []impl.Match) bool { return slices.EqualFunc(a, b, sameMatch) }

// checkByReference compares the Ways from every place with those of the
// reference; it answers how many places had not too many.
func checkByReference(t *testing.T, pattern, text string) int {
	t.Helper()
	p := impl.ReadPattern(pattern)
	checked := 0
	for from := 0; from <= len(text); from++ {
		want, ok := referenceWays(p, text, from)
		if !ok {
			continue
		}
		checked++
		if got := impl.Ways(pattern, text, from); !sameMatches(got, want) {
			t.Fatalf("%q in %q from %d: got %v, want %v", pattern, text, from, got, want)
		}
	}
	return checked
}

// grown is a pattern over a few bytes, with counts small enough for the reference.
type grown struct {
	chooser
	text   []byte
	groups int
	deep   int
	atoms  string
}

func (g *grown) pattern() {
	g.seq()
	for g.below(3) == 0 {
		g.text = append(g.text, '|')
		g.seq()
	}
}

func (g *grown) seq() {
	for g.below(4) > 0 && len(g.text) < 40 {
		g.atom()
		g.counts()
	}
}

func (g *grown) atom() {
	if g.below(3) == 0 && g.groups < impl.MaxGroups && g.deep < impl.MaxDeep {
		g.groups++
		g.deep++
		g.text = append(g.text, '(')
		g.pattern()
		g.text = append(g.text, ')')
		g.deep--
		return
	}
	g.text = append(g.text, g.atoms[g.below(len(g.atoms))])
}

func (g *grown) counts() {
	counts := []string{
		"*", "+", "?", "{0}", "{1}", "{2}", "{3}", "{0,}", "{1,}", "{2,}", "{0,0}", "{0,1}", "{0,2}", "{0,3}", "{1,1}", "{1,2}", "{2,2}", "{2,4}",
	}
	if g.below(2) == 0 {
		return
	}
	g.text = append(g.text, counts[g.below(len(counts))]...)
	if g.below(2) == 0 {
		g.text = append(g.text, '?')
	}
}

// grownPattern gives a pattern of these atoms, the same for the same seed.
func grownPattern(seed int, atoms string) string {
	g := grown{chooser: chooser{uint64(seed)}, atoms: atoms}
	g.pattern()
	return string(g.text)
}

// grownText gives a text of at most longest of these bytes, the same for the same seed.
func grownText(seed int, bytes string, longest int) string {
	c := chooser{uint64(seed) + 1<<40}
	text := make([]byte, c.below(longest+1))
	for i := range text {
		text[i] = bytes[c.below(len(bytes))]
	}
	return string(text)
}
