package tests

import (
	"slices"
	"strings"
	"testing"

	"loop.example/twist/impl"
)

func textBit(text string) impl.Bit { return impl.Bit{Group: -1, Text: text} }

func groupBit(group int) impl.Bit { return impl.Bit{Group: group} }

func sameTemplate(a, b impl.Template) bool {
	return a.Ok == b.Ok && a.At == b.At && slices.Equal(a.Bits, b.Bits)
}

func mustReadTemplate(t *testing.T, text string, bits ...impl.Bit) {
	t.Helper()
	want := impl.Template{Ok: true, Bits: bits}
	if got := impl.ReadTemplate(text); !sameTemplate(got, want) {
		t.Errorf("%q: got %v, want %v", text, got, want)
	}
}

// mustFailTemplate checks the place of a fault, and that nothing else is told.
func mustFailTemplate(t *testing.T, text string, at int) {
	t.Helper()
	if got := impl.ReadTemplate(text); !sameTemplate(got, impl.Template{At: at}) {
		t.Errorf("%q: got %v, want a fault at %d", text, got, at)
	}
}

func TestReadTemplate(t *testing.T) {
	for _, c := range []struct {
		text string
		bits []impl.Bit
	}{
		{"", nil},
		{"a", []impl.Bit{textBit("a")}},
		{"abc", []impl.Bit{textBit("abc")}},
		{"$0", []impl.Bit{groupBit(0)}},
		{"$9", []impl.Bit{groupBit(9)}},
		{"$1$2", []impl.Bit{groupBit(1), groupBit(2)}},
		{"$1$1", []impl.Bit{groupBit(1), groupBit(1)}},
		{"$12", []impl.Bit{groupBit(1), textBit("2")}},
		{"$00", []impl.Bit{groupBit(0), textBit("0")}},
		{"12", []impl.Bit{textBit("12")}},
		{"$$", []impl.Bit{textBit("$")}},
		{"$$$$", []impl.Bit{textBit("$$")}},
		{"$$1", []impl.Bit{textBit("$1")}},
		{"$$$1", []impl.Bit{textBit("$"), groupBit(1)}},
		{"$1$$", []impl.Bit{groupBit(1), textBit("$")}},
		{"$1$$$2", []impl.Bit{groupBit(1), textBit("$"), groupBit(2)}},
		{"a$$b", []impl.Bit{textBit("a$b")}},
		{"a$$$$b$$", []impl.Bit{textBit("a$$b$")}},
		{"a$$b$1$0c", []impl.Bit{textBit("a$b"), groupBit(1), groupBit(0), textBit("c")}},
		{"a$1b$2c", []impl.Bit{textBit("a"), groupBit(1), textBit("b"), groupBit(2), textBit("c")}},
		{"$1 $$$$5 $2", []impl.Bit{groupBit(1), textBit(" $$5 "), groupBit(2)}},
		{"\\1\\$3\\n", []impl.Bit{textBit("\\1\\"), groupBit(3), textBit("\\n")}},
		{"\x00$1\n\xff\xc3\xa9", []impl.Bit{textBit("\x00"), groupBit(1), textBit("\n\xff\xc3\xa9")}},
	} {
		mustReadTemplate(t, c.text, c.bits...)
	}
}

func TestTemplateFaults(t *testing.T) {
	for text, at := range map[string]int{
		"$": 1, "a$": 2, "$$$": 3, "$$$$$": 5, "$1$": 3, "abc$": 4, "$$a$": 4,
		"$x": 1, "a$x": 2, "$ 1": 1, "$-1": 1, "$a1": 1, "$\n": 1, "$\x00": 1, "$\xff": 1, "$$$x": 3, "$1$x": 3, "$x$1": 1, "${1}": 1, "$\\$": 1,
		// The first of several.
		"$x$": 1, "$x$y": 1, "a$b$c$": 2, "$1$$$a$$$": 5,
	} {
		mustFailTemplate(t, text, at)
	}
}

func TestTemplateOfEveryByte(t *testing.T) {
	for b := range 256 {
		text := string([]byte{byte(b)})
		if b == '$' {
			mustReadTemplate(t, "$"+text, textBit("$"))
			mustFailTemplate(t, text, 1)
			continue
		}
		mustReadTemplate(t, text, textBit(text))
		mustReadTemplate(t, "x"+text+"$3"+text+text, textBit("x"+text), groupBit(3), textBit(text+text))
		if isDigit(b) {
			mustReadTemplate(t, "$"+text, groupBit(b-'0'))
			mustReadTemplate(t, "a$"+text+"b", textBit("a"), groupBit(b-'0'), textBit("b"))
			continue
		}
		mustFailTemplate(t, "$"+text, 1)
		mustFailTemplate(t, "ab$"+text+"c", 3)
	}
}

func TestTemplateLengthAtItsBound(t *testing.T) {
	long := strings.Repeat("a", impl.MaxTemplate)
	mustReadTemplate(t, long, textBit(long))
	mustReadTemplate(t, strings.Repeat("$$", impl.MaxTemplate/2), textBit(strings.Repeat("$", impl.MaxTemplate/2)))
	mustReadTemplate(t, strings.Repeat("$7", impl.MaxTemplate/2), slices.Repeat([]impl.Bit{groupBit(7)}, impl.MaxTemplate/2)...)
	mustReadTemplate(t, long[2:]+"$1", textBit(long[2:]), groupBit(1))
	mustFailTemplate(t, long[1:]+"$", impl.MaxTemplate)
	mustFailTemplate(t, long[2:]+"$a", impl.MaxTemplate-1)
	for _, text := range []string{
		long + "a", long + "$", "$" + long, "$x" + long, "$1" + long, long + long, strings.Repeat("$$", impl.MaxTemplate/2) + "$", strings.Repeat("$", 1<<20),
	} {
		mustFailTemplate(t, text, impl.MaxTemplate)
	}
}

// meant is what a template stands for, byte by byte: a byte is its number, a group one below 0. For a text that is
// none it gives the place of the fault.
func meant(text string) (out []int, at int, ok bool) {
	for at < len(text) {
		first, behind := text[at], text[at+1:]
		switch {
		case first != '$':
			out = append(out, int(first))
			at++
		case strings.HasPrefix(behind, "$"):
			out = append(out, '$')
			at += 2
		case behind != "" && strings.Contains("0123456789", behind[:1]):
			out = append(out, -1-strings.Index("0123456789", behind[:1]))
			at += 2
		default:
			return nil, at + 1, false
		}
	}
	return out, 0, true
}

// checkTemplate compares what the bits stand for with what the text does, and checks that each text is as long as it can be.
func checkTemplate(t *testing.T, text string) {
	t.Helper()
	want, at, ok := meant(text)
	if !ok {
		mustFailTemplate(t, text, at)
		return
	}
	got := impl.ReadTemplate(text)
	var stands []int
	behindText := false
	for _, bit := range got.Bits {
		if bit.Group >= 0 {
			stands = append(stands, -1-bit.Group)
		}
		for _, b := range []byte(bit.Text) {
			stands = append(stands, int(b))
		}
		isText := bit.Group == -1
		if isText == (bit.Text == "") || isText && behindText {
			t.Fatalf("%q: %v has a text that is empty, beside another, or in a group", text, got)
		}
		behindText = isText
	}
	if !got.Ok || got.At != 0 || !slices.Equal(stands, want) {
		t.Fatalf("%q: got %v, want what stands for %v", text, got, want)
	}
}

func TestEveryShortTemplate(t *testing.T) {
	everyText("$a01", 7, func(text string) { checkTemplate(t, text) })
	everyText("$9\xff{ ", 5, func(text string) { checkTemplate(t, text) })
	for seed := range 2000 {
		checkTemplate(t, grownText(seed, "$0$1$2$9$$abc\n\xff", impl.MaxTemplate))
	}
}

// grownBits gives bits of which no two texts stand side by side, and the text that they are written as, which leaves
// room for three more bytes.
func grownBits(seed int) ([]impl.Bit, string) {
	c := chooser{uint64(seed)}
	var bits []impl.Bit
	var text string
	for len(text) < impl.MaxTemplate-18 && c.below(8) > 0 {
		if c.below(2) == 0 && (len(bits) == 0 || bits[len(bits)-1].Group >= 0) {
			plain := make([]byte, 1+c.below(8))
			for i := range plain {
				plain[i] = "$$01ab\x00\xff"[c.below(8)]
			}
			bits = append(bits, textBit(string(plain)))
			text += strings.ReplaceAll(string(plain), "$", "$$")
			continue
		}
		group := c.below(10)
		bits = append(bits, groupBit(group))
		text += "$" + string("0123456789"[group])
	}
	return bits, text
}

func TestWrittenBitsAreReadBack(t *testing.T) {
	for seed := range 20000 {
		bits, text := grownBits(seed)
		mustReadTemplate(t, text, bits...)
		mustFailTemplate(t, text+"$", len(text)+1)
		mustFailTemplate(t, text+"$a$", len(text)+1)
	}
}

func TestTemplateIsNewMemory(t *testing.T) {
	text := "a$1b$2$$c"
	want := []impl.Bit{textBit("a"), groupBit(1), textBit("b"), groupBit(2), textBit("$c")}
	first, second := impl.ReadTemplate(text), impl.ReadTemplate(text)
	all := first.Bits[:cap(first.Bits)]
	for i := range all {
		all[i] = impl.Bit{Group: 77, Text: "other"}
	}
	if !slices.Equal(second.Bits, want) {
		t.Errorf("two answers share memory: %v", second)
	}
	mustReadTemplate(t, text, want...)
}
