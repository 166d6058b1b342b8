package tests

import (
	"fmt"
	"regexp"
	"strings"
	"testing"

	"loop.example/twist/impl"
)

func mustUnquote(t *testing.T, text, want string) {
	t.Helper()
	if got := impl.Unquote(text); got != (impl.Unquoted{Ok: true, Text: want}) {
		t.Errorf("%q: got %#v, want %q", text, got, want)
	}
}

// mustFailUnquote checks the place of a fault, and that nothing else is told.
func mustFailUnquote(t *testing.T, text string, at int) {
	t.Helper()
	if got := impl.Unquote(text); got != (impl.Unquoted{At: at}) {
		t.Errorf("%q: got %#v, want a fault at %d", text, got, at)
	}
}

// mustQuote checks that what is written is read back, too.
func mustQuote(t *testing.T, text, want string) {
	t.Helper()
	if got := impl.Quote(text); got != want {
		t.Errorf("%q: got %q, want %q", text, got, want)
	}
	mustUnquote(t, want, text)
}

// element is how a byte stands in a quoted text, by the words of chapter 5.
func element(b int) string {
	switch {
	case b == 10:
		return `\n`
	case b == 9:
		return `\t`
	case b == '"':
		return `\"`
	case b == '\\':
		return `\\`
	case b < 32 || b > 126:
		return fmt.Sprintf(`\x%02x`, b)
	}
	return string([]byte{byte(b)})
}

func elements(text string) string {
	var out strings.Builder
	for _, b := range []byte(text) {
		out.WriteString(element(int(b)))
	}
	return out.String()
}

func oneByte(b int) string { return string([]byte{byte(b)}) }

func everyByte() string {
	var all [256]byte
	for b := range all {
		all[b] = byte(b)
	}
	return string(all[:])
}

func TestQuote(t *testing.T) {
	for text, want := range map[string]string{
		"":                  `""`,
		"abc":               `"abc"`,
		" ":                 `" "`,
		"a b":               `"a b"`,
		"x = 'y'":           `"x = 'y'"`,
		"\x00":              `"\x00"`,
		"\x08\t\n\x0b":      `"\x08\t\n\x0b"`,
		"\r":                `"\x0d"`,
		"\x1f !":            `"\x1f !"`,
		`"`:                 `"\""`,
		`""`:                `"\"\""`,
		`\`:                 `"\\"`,
		`\\`:                `"\\\\"`,
		`\"`:                `"\\\""`,
		`"\`:                `"\"\\"`,
		`\n`:                `"\\n"`,
		`\x41`:              `"\\x41"`,
		"}~\x7f\x80":        `"}~\x7f\x80"`,
		"\xff":              `"\xff"`,
		"\xc3\xa9":          `"\xc3\xa9"`,
		"\xe2\x82\xac5\n":   `"\xe2\x82\xac5\n"`,
		"a\"\\\n\t\x01\xfe": `"a\"\\\n\t\x01\xfe"`,
	} {
		mustQuote(t, text, want)
	}
}

func TestQuoteEveryByte(t *testing.T) {
	for b := range 256 {
		mustQuote(t, oneByte(b), `"`+element(b)+`"`)
		for other := range 256 {
			mustQuote(t, oneByte(b)+oneByte(other), `"`+element(b)+element(other)+`"`)
		}
	}
	low, high := everyByte()[:128], everyByte()[128:]
	mustQuote(t, low, `"`+elements(low)+`"`)
	mustQuote(t, high, `"`+elements(high)+`"`)
}

func TestQuoteAtTheBound(t *testing.T) {
	for b := range 256 {
		longest := strings.Repeat(oneByte(b), impl.MaxText)
		mustQuote(t, longest, `"`+strings.Repeat(element(b), impl.MaxText)+`"`)
		for _, more := range []string{longest + oneByte(b), longest + "a", "\n" + longest, longest + longest} {
			if got := impl.Quote(more); got != "" {
				t.Errorf("%d bytes have the quoting %q", len(more), got)
			}
		}
	}
	if got := impl.Quote(strings.Repeat("a", 1<<20)); got != "" {
		t.Errorf("a very long text has a quoting of %d bytes", len(got))
	}
}

func TestEveryQuoteIsReadBack(t *testing.T) {
	for seed := range 3000 {
		text := grownText(seed, everyByte(), impl.MaxText)
		mustQuote(t, text, `"`+elements(text)+`"`)
		// What is quoted may be quoted again.
		if again := impl.Quote(text); len(again) <= impl.MaxText {
			mustQuote(t, again, `"`+elements(again)+`"`)
		}
	}
	everyText("\"\\nx4\n\xff", 5, func(text string) {
		mustQuote(t, text, `"`+elements(text)+`"`)
	})
}

func TestUnquoteEveryNumber(t *testing.T) {
	for b := range 256 {
		number := fmt.Sprintf(`\x%02x`, b)
		mustUnquote(t, `"`+number+`"`, oneByte(b))
		mustUnquote(t, `"a`+number+`4`+number+number+`"`, "a"+oneByte(b)+"4"+oneByte(b)+oneByte(b))
		mustUnquote(t, `"\\`+number+`\""`, `\`+oneByte(b)+`"`)
	}
	mustUnquote(t, `"\x22\x5c\x0a\x09\x41\x20"`, "\"\\\n\tA ")
	mustUnquote(t, `"\x5cn\x5cx41\x22"`, `\n\x41"`)
}

func TestUnquoteWhatIsNoDigit(t *testing.T) {
	for b := range 256 {
		if strings.Contains("0123456789abcdef", oneByte(b)) {
			continue
		}
		mustFailUnquote(t, `"\x`+oneByte(b), 3)
		mustFailUnquote(t, `"\x`+oneByte(b)+`0"`, 3)
		mustFailUnquote(t, `"\x`+oneByte(b)+oneByte(b)+`"`, 3)
		mustFailUnquote(t, `"\x0`+oneByte(b), 4)
		mustFailUnquote(t, `"\xf`+oneByte(b)+`"`, 4)
		mustFailUnquote(t, `"a\\\x41\xa`+oneByte(b)+`0"`, 11)
	}
	for text, at := range map[string]int{
		`"\xA0"`: 3, `"\x0A"`: 4, `"\xFf"`: 3, `"\xfF"`: 4, `"\xg0"`: 3, `"\x0g"`: 4, `"\x""`: 3, `"\x4""`: 4, `"\x\x41"`: 3, `"\x 4"`: 3, `"\x+4"`: 3, `"\xx41"`: 3,
	} {
		mustFailUnquote(t, text, at)
	}
}

func TestUnquoteEverySign(t *testing.T) {
	meaning := map[int]string{'n': "\n", 't': "\t", '"': `"`, '\\': `\`}
	for b := range 256 {
		if want, ok := meaning[b]; ok {
			mustUnquote(t, `"\`+oneByte(b)+`"`, want)
			mustUnquote(t, `"a\`+oneByte(b)+`nb"`, "a"+want+"nb")
			continue
		}
		if b == 'x' {
			continue
		}
		mustFailUnquote(t, `"\`+oneByte(b), 2)
		mustFailUnquote(t, `"\`+oneByte(b)+`"`, 2)
		mustFailUnquote(t, `"\`+oneByte(b)+`41"`, 2)
		mustFailUnquote(t, `"ab\n\x00\`+oneByte(b)+`"`, 10)
	}
}

func TestUnquoteEveryByteThatStandsForItself(t *testing.T) {
	for b := range 256 {
		raw := oneByte(b)
		switch {
		case b == '"':
			mustUnquote(t, raw+raw, "")
			mustFailUnquote(t, `"`+raw+`"`, 2)
		case b == '\\':
			mustFailUnquote(t, `"`+raw+`"`, 3)
		case 32 <= b && b <= 126:
			mustUnquote(t, `"`+raw+`"`, raw)
			mustUnquote(t, `"`+raw+`\\`+raw+raw+`"`, raw+`\`+raw+raw)
		default:
			mustFailUnquote(t, `"`+raw, 1)
			mustFailUnquote(t, `"`+raw+`"`, 1)
			mustFailUnquote(t, `"abc`+raw+`d"`, 4)
			mustFailUnquote(t, `"\n\x41`+raw+`"`, 7)
			mustFailUnquote(t, `" `+raw+raw+`\q`, 2)
		}
	}
}

func TestUnquoteWithoutBeginning(t *testing.T) {
	mustFailUnquote(t, "", 0)
	for b := range 256 {
		if b == '"' {
			continue
		}
		mustFailUnquote(t, oneByte(b), 0)
		mustFailUnquote(t, oneByte(b)+`"`, 0)
		mustFailUnquote(t, oneByte(b)+`""`, 0)
		mustFailUnquote(t, oneByte(b)+`"a`+"\n", 0)
	}
}

func TestUnquoteThatEndsTooEarly(t *testing.T) {
	for _, text := range []string{`""`, `"a"`, `"\n"`, `"\""`, `"\\"`, `"\x41"`, `"a\\\x0fb\"\t\xff c"`, `"` + elements(everyByte()) + `"`} {
		for at := range len(text) {
			mustFailUnquote(t, text[:at], at)
		}
	}
	for text, at := range map[string]int{`"`: 1, `"a`: 2, `"\`: 2, `"\x`: 3, `"\x4`: 4, `"\x41`: 5, `"\"`: 3, `"\\\"`: 5, `"\\\`: 4} {
		mustFailUnquote(t, text, at)
	}
}

func TestUnquoteWithSomethingBehind(t *testing.T) {
	for b := range 256 {
		mustFailUnquote(t, `""`+oneByte(b), 2)
		mustFailUnquote(t, `"a"`+oneByte(b), 3)
		mustFailUnquote(t, `"\""`+oneByte(b)+oneByte(b), 4)
		mustFailUnquote(t, `"\x22"`+oneByte(b)+`"`, 6)
	}
	for text, at := range map[string]int{`"a""b"`: 3, `"a" `: 3, "\"a\"\n": 3, `"a" "b"`: 3, `"\\"n"`: 4, `""""`: 2} {
		mustFailUnquote(t, text, at)
	}
}

func TestUnquoteAtTheBound(t *testing.T) {
	const inside = impl.MaxQuoted - 2
	plain := strings.Repeat("a", inside)
	// A text that is read may be longer than one that is written.
	mustUnquote(t, `"`+plain+`"`, plain)
	mustUnquote(t, `"`+strings.Repeat(`\n`, inside/2)+`"`, strings.Repeat("\n", inside/2))
	mustUnquote(t, `"`+strings.Repeat(`\xff`, inside/4)+`bc"`, strings.Repeat("\xff", inside/4)+"bc")
	mustFailUnquote(t, `"`+plain+"a", impl.MaxQuoted)
	mustFailUnquote(t, `"`+plain+"\n", impl.MaxQuoted-1)
	mustFailUnquote(t, `"`+plain+`\`, impl.MaxQuoted)
	mustFailUnquote(t, `"`+plain[1:]+`""`, impl.MaxQuoted-1)
	mustFailUnquote(t, "\n"+plain+`"`, 0)
	for _, text := range []string{
		`"` + plain + `a"`, `"` + plain + `"a`, `"` + plain + `""`, `"` + plain + "\n\"", plain + "aaa", "\n" + plain + "aa", `"\q` + plain + `"`, `""` + plain + `"`,
		`"` + plain + plain + `"`, `"` + strings.Repeat(`\xff`, impl.MaxQuoted) + `"`, strings.Repeat("\xff", 1<<20),
	} {
		mustFailUnquote(t, text, impl.MaxQuoted)
	}
}

const elementForm = `[ !#-\[\]-~]|\\[nt"\\]|\\x[0-9a-f][0-9a-f]`

var (
	oneElement = regexp.MustCompile(elementForm)
	quotedForm = regexp.MustCompile(`^"(?:` + elementForm + `)*"$`)
)

// beginsQuoted tells whether a text is the beginning of a quoted one: these are the ends that such a beginning may need.
func beginsQuoted(text string) bool {
	for _, rest := range []string{"", `"`, `""`, `00"`, `0"`} {
		if quotedForm.MatchString(text + rest) {
			return true
		}
	}
	return text == ""
}

// elementMeanings has the byte of each element, those that Quote does not write among them.
func elementMeanings() map[string]byte {
	out := map[string]byte{}
	for b := range 256 {
		out[element(b)] = byte(b)
		out[fmt.Sprintf(`\x%02x`, b)] = byte(b)
	}
	return out
}

// checkUnquote holds the answer against the form of a quoted text, and the place of a fault against the longest
// beginning that might yet have gone on.
func checkUnquote(t *testing.T, text string, meanings map[string]byte) {
	t.Helper()
	if !quotedForm.MatchString(text) {
		at := 0
		for at < len(text) && beginsQuoted(text[:at+1]) {
			at++
		}
		mustFailUnquote(t, text, at)
		return
	}
	var want []byte
	for _, found := range oneElement.FindAllString(text[1:len(text)-1], -1) {
		want = append(want, meanings[found])
	}
	mustUnquote(t, text, string(want))
}

func TestUnquoteEveryShortText(t *testing.T) {
	meanings := elementMeanings()
	everyText("\"\\xn4 \n", 5, func(text string) { checkUnquote(t, text, meanings) })
	everyText("\"\\x4fA\x7f", 5, func(text string) { checkUnquote(t, `"`+text, meanings) })
	everyText("\\xc4\"", 7, func(text string) { checkUnquote(t, `"`+text+`"`, meanings) })
}

func TestUnquoteChangedTexts(t *testing.T) {
	meanings := elementMeanings()
	for seed := range 5000 {
		c := chooser{uint64(seed)}
		quoted := []byte(impl.Quote(grownText(seed, "ab\"\\\n\x00\xff~ ", 30)))
		for range 1 + c.below(3) {
			quoted[c.below(len(quoted))] = "\"\\xntaf09A \n\x80"[c.below(13)]
		}
		checkUnquote(t, string(quoted), meanings)
	}
}
