package tests

import (
	"fmt"
	"go/ast"
	"go/parser"
	"go/token"
	"math"
	"path/filepath"
	"reflect"
	"slices"
	"strings"
	"testing"
	"unsafe"

	"loop.example/twist/impl"
)

// ask is a call of a function; texts are those of its arguments that are texts.
type ask struct {
	name  string
	texts []string
	call  func(texts []string) any
}

func (a ask) String() string { return fmt.Sprintf("%s of %q", a.name, a.texts) }

// told is all that an answer says.
func told(answer any) string { return fmt.Sprintf("%#v", answer) }

// asks has calls of every function, at what it answers and at what it refuses.
func asks() []ask {
	patterns := []string{
		"", "a", "(a)(b)?|c", "(a|(b))*?c?", "[^a-b\\n]{2,3}$", "^\\w*|", memoryText, nested("a|b|", "{0,3}", 4), "[^\\x00-\\xff]",
		strings.Repeat("a", impl.MaxPattern), "a**", "(a", "[b-a]", "a{51}", strings.Repeat("()", impl.MaxGroups+1), strings.Repeat("a", impl.MaxPattern+1),
	}
	texts := []string{
		"", "a", "abbacab,cc\n", "\x00\"\\\t\xff~", strings.Repeat("ab", impl.MaxText/2), strings.Repeat("\xff", impl.MaxText), strings.Repeat("ab", impl.MaxText/2) + "c",
	}
	templates := []string{"", "x", "<$0$$>", "$2-$1", "$9", "a$", "$x", strings.Repeat("y", impl.MaxTemplate), strings.Repeat("y", impl.MaxTemplate+1)}
	quoted := []string{
		`""`, `"abc"`, `"a\n\t\"\\\x41\xff"`, `"` + strings.Repeat("a", impl.MaxQuoted-2) + `"`,
		`"a`, `"a"b`, `"\q"`, `"\x4"`, "\"\n\"", `"` + strings.Repeat("a", impl.MaxQuoted) + `"`,
	}
	return slices.Concat(asksOfOne(patterns, texts, templates, quoted), asksOfTwo(patterns, texts), asksOfReplace(patterns, texts, templates))
}

func asksOfOne(patterns, texts, templates, quoted []string) []ask {
	var out []ask
	for _, text := range slices.Concat(patterns, texts, templates, quoted) {
		one := []string{text}
		out = append(out,
			ask{"ReadPattern", one, func(texts []string) any { return impl.ReadPattern(texts[0]) }},
			ask{"WritePattern", one, func(texts []string) any { return impl.WritePattern(impl.ReadPattern(texts[0])) }},
			ask{"Escape", one, func(texts []string) any { return impl.Escape(texts[0]) }},
			ask{"ReadTemplate", one, func(texts []string) any { return impl.ReadTemplate(texts[0]) }},
			ask{"Quote", one, func(texts []string) any { return impl.Quote(texts[0]) }},
			ask{"Unquote", one, func(texts []string) any { return impl.Unquote(texts[0]) }})
	}
	return out
}

func asksOfTwo(patterns, texts []string) []ask {
	var out []ask
	for _, pattern := range patterns {
		for _, text := range texts {
			two := []string{pattern, text}
			out = append(out,
				ask{"Whole", two, func(texts []string) any { return impl.Whole(texts[0], texts[1]) }},
				ask{"All", two, func(texts []string) any { return impl.All(texts[0], texts[1]) }},
				ask{"Count", two, func(texts []string) any { return impl.Count(texts[0], texts[1]) }},
				ask{"Split", two, func(texts []string) any { return impl.Split(texts[0], texts[1]) }})
			for _, from := range []int{-1, 0, 1, len(text), len(text) + 1} {
				out = append(out,
					ask{"Ways", two, func(texts []string) any { return impl.Ways(texts[0], texts[1], from) }},
					ask{"Find", two, func(texts []string) any { return impl.Find(texts[0], texts[1], from) }})
			}
		}
	}
	return out
}

func asksOfReplace(patterns, texts, templates []string) []ask {
	var out []ask
	for _, pattern := range patterns {
		for _, text := range texts {
			for _, with := range templates {
				for _, most := range []int{-1, 0, 2, math.MaxInt} {
					out = append(out, ask{"Replace", []string{pattern, text, with}, func(texts []string) any {
						return impl.Replace(texts[0], texts[1], texts[2], most)
					}})
				}
			}
		}
	}
	return out
}

func TestEveryFunctionIsAsked(t *testing.T) {
	asked := map[string]bool{}
	for _, a := range asks() {
		asked[a.name] = true
	}
	files, err := filepath.Glob("../impl/*.go")
	if err != nil || len(files) == 0 {
		t.Fatalf("no program: %v", err)
	}
	for _, file := range files {
		parsed, err := parser.ParseFile(token.NewFileSet(), file, nil, parser.SkipObjectResolution)
		if err != nil {
			t.Fatal(err)
		}
		for _, decl := range parsed.Decls {
			if f, ok := decl.(*ast.FuncDecl); ok && f.Recv == nil && f.Name.IsExported() && !asked[f.Name.Name] {
				t.Errorf("%s is not asked", f.Name.Name)
			}
		}
	}
}

// watched gives texts that lie side by side in memory that can be looked at and written over.
func watched(texts []string) (memory []byte, views []string) {
	memory = []byte("|" + strings.Join(texts, "|") + "|")
	at := 1
	for _, text := range texts {
		views = append(views, unsafe.String(&memory[at], len(text)))
		at += len(text) + 1
	}
	return memory, views
}

func TestTextsStayAsTheyWere(t *testing.T) {
	for _, a := range asks() {
		memory, views := watched(a.texts)
		before := string(memory)
		answer := a.call(views)
		if string(memory) != before {
			t.Fatalf("%v: an argument was written into: %q", a, memory)
		}
		want := told(a.call(a.texts))
		for i := range memory {
			memory[i] = '!'
		}
		if got := told(answer); got != want {
			t.Fatalf("%v: the answer shares memory with an argument: got %s, want %s", a, got, want)
		}
	}
}

// roomy gives the pattern in lists with room behind them, which holds numbers of its own.
func roomy(p impl.Pattern) impl.Pattern {
	const room = 5
	pieces := append(slices.Clone(p.Pieces), slices.Repeat([]impl.Piece{{Kind: 71, Min: 72}}, room)...)
	for i, piece := range pieces {
		set := append(slices.Clone(piece.Set), slices.Repeat([]impl.Range{{Lo: 73, Hi: 74}}, room)...)
		kids := append(slices.Clone(piece.Kids), slices.Repeat([]int{75}, room)...)
		pieces[i].Set, pieces[i].Kids = set[:len(piece.Set)], kids[:len(piece.Kids)]
	}
	p.Pieces = pieces[:len(p.Pieces)]
	return p
}

// inFull has also what stands in the room behind the lists; it shares no memory with p.
func inFull(p impl.Pattern) impl.Pattern {
	p.Pieces = slices.Clone(p.Pieces[:cap(p.Pieces)])
	for i, piece := range p.Pieces {
		p.Pieces[i].Set = slices.Clone(piece.Set[:cap(piece.Set)])
		p.Pieces[i].Kids = slices.Clone(piece.Kids[:cap(piece.Kids)])
	}
	return p
}

// otherPatterns are p and patterns that are read from no text: what it would take to mend them must not be done to them.
func otherPatterns(p impl.Pattern) []impl.Pattern {
	changes := []func(p *impl.Pattern){
		func(p *impl.Pattern) {},
		func(p *impl.Pattern) { p.Ok = !p.Ok },
		func(p *impl.Pattern) { p.At, p.Groups = 7, -1 },
		func(p *impl.Pattern) { slices.Reverse(p.Pieces) },
		func(p *impl.Pattern) { p.Pieces = append(p.Pieces, p.Pieces...) },
		func(p *impl.Pattern) {
			for i := range p.Pieces {
				slices.Reverse(p.Pieces[i].Set)
			}
		},
		func(p *impl.Pattern) {
			for i := range p.Pieces {
				slices.Reverse(p.Pieces[i].Kids)
			}
		},
		func(p *impl.Pattern) {
			for i := range p.Pieces {
				p.Pieces[i].Set = append(p.Pieces[i].Set, impl.Range{Lo: 'b', Hi: 'c'}, impl.Range{Lo: 'a', Hi: 'b'})
			}
		},
		func(p *impl.Pattern) {
			for i := range p.Pieces {
				p.Pieces[i].Kids = append(p.Pieces[i].Kids, i, -1, math.MaxInt)
			}
		},
	}
	var out []impl.Pattern
	for _, change := range changes {
		other := copyPattern(p)
		change(&other)
		out = append(out, other)
	}
	return out
}

func TestPatternStaysAsItWas(t *testing.T) {
	for _, text := range []string{"", "a", "(a)(b)?|c", "[^a-b\\n]{2,3}$", memoryText, nested("a|b|", "{0,3}", 4), "a**"} {
		for _, other := range otherPatterns(impl.ReadPattern(text)) {
			p := roomy(other)
			before := inFull(p)
			want := impl.WritePattern(other)
			if got := impl.WritePattern(p); got != want {
				t.Fatalf("%v: got %q, want %q", p, got, want)
			}
			if !reflect.DeepEqual(inFull(p), before) {
				t.Fatalf("%v was written into", p)
			}
		}
	}
}

// Each order has other calls ahead of and between the same ones.
func TestSameArgumentSameAnswer(t *testing.T) {
	all := asks()
	want := make([]string, len(all))
	for i, a := range all {
		want[i] = told(a.call(a.texts))
	}
	order := make([]int, len(all))
	for i := range order {
		order[i] = len(all) - 1 - i
	}
	c := chooser{11}
	for range 3 {
		for _, i := range order {
			if got := told(all[i].call(all[i].texts)); got != want[i] {
				t.Fatalf("%v: first %s, then %s", all[i], want[i], got)
			}
		}
		for i := range order {
			k := c.below(i + 1)
			order[i], order[k] = order[k], order[i]
		}
	}
}

// scribble writes over all that the lists of an answer have room for.
func scribble(v reflect.Value) {
	switch v.Kind() {
	case reflect.Slice:
		full := v.Slice(0, v.Cap())
		for i := range full.Len() {
			scribble(full.Index(i))
		}
	case reflect.Struct:
		for i := range v.NumField() {
			scribble(v.Field(i))
		}
	case reflect.Int:
		if v.CanSet() {
			v.SetInt(v.Int() + 1000)
		}
	case reflect.String:
		if v.CanSet() {
			v.SetString("other")
		}
	}
}

func TestAnswersShareNoMemory(t *testing.T) {
	for _, a := range asks() {
		first, second := a.call(a.texts), a.call(a.texts)
		want := told(second)
		scribble(reflect.ValueOf(first))
		if got := told(second); got != want {
			t.Fatalf("%v: two answers share memory: %s became %s", a, want, got)
		}
		if got := told(a.call(a.texts)); got != want {
			t.Fatalf("%v: what was done to an answer is seen in a later one: %s became %s", a, want, got)
		}
	}
}

// extent is where a list lies.
type extent struct{ from, to uintptr }

// extents has the lists of an answer, with the room behind them.
func extents(v reflect.Value) []extent {
	var out []extent
	switch v.Kind() {
	case reflect.Slice:
		if size := uintptr(v.Cap()) * v.Type().Elem().Size(); size > 0 {
			out = append(out, extent{uintptr(v.UnsafePointer()), uintptr(v.UnsafePointer()) + size})
		}
		for i := range v.Len() {
			out = append(out, extents(v.Index(i))...)
		}
	case reflect.Struct:
		for i := range v.NumField() {
			out = append(out, extents(v.Field(i))...)
		}
	}
	return out
}

func TestListsOfOneAnswerShareNoMemory(t *testing.T) {
	for _, a := range asks() {
		answer := a.call(a.texts)
		lists := extents(reflect.ValueOf(answer))
		slices.SortFunc(lists, func(x, y extent) int { return int(x.from) - int(y.from) })
		for i := 1; i < len(lists); i++ {
			if lists[i].from < lists[i-1].to {
				t.Fatalf("%v: two lists of %s share memory", a, told(answer))
			}
		}
	}
}
