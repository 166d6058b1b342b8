package impl

import (
	"slices"
	"strconv"
)

const (
	MaxPattern = 120
	MaxText    = 200
	MaxGroups  = 9
	MaxCount   = 50
	MaxDeep    = 6
)

const (
	PSet    = 1
	PSeq    = 2
	PAlt    = 3
	PRepeat = 4
	PGroup  = 5
	PStart  = 6
	PEnd    = 7
)

// Range is bytes from Lo to Hi.
type Range struct {
	Lo int
	Hi int
}

// Piece is a part of a pattern; its kids are pieces ahead of it.
type Piece struct {
	Kind int
	Set  []Range
	Min  int
	Max  int
	Lazy bool
	Num  int
	Kids []int
}

// Pattern is the pieces of a pattern, the last one the whole, or at which byte it goes wrong.
type Pattern struct {
	Ok     bool
	At     int
	Groups int
	Pieces []Piece
}

// noBound is the Max of a repeat that may go on for ever.
const noBound = -1

// maxPieces is more than any text has: each piece takes a byte of the text for
// itself, but for the first seq and the alt of the whole and of each group.
const maxPieces = 2 * MaxPattern

const hexDigits = "0123456789abcdef"

// ReadPattern reads a text as a pattern, or tells where it goes wrong.
func ReadPattern(text string) Pattern {
	root, groups, at := readTree(text)
	if root == nil {
		return Pattern{At: at}
	}
	return Pattern{Ok: true, Groups: groups, Pieces: appendPieces(nil, root)}
}

// WritePattern gives a text that is read as p, or nothing if p is not what such a text is read as.
func WritePattern(p Pattern) string {
	root := treeOf(p.Pieces)
	if root == nil {
		return ""
	}
	text := string(appendNode(nil, root))
	if !samePattern(ReadPattern(text), p) {
		return ""
	}
	return text
}

// Escape gives the pattern of just this text, or nothing if that would be too long for one.
func Escape(text string) string {
	var out []byte
	for i := 0; i < len(text); i++ {
		out = appendByte(out, text[i])
		if len(out) > MaxPattern {
			return ""
		}
	}
	return string(out)
}

// byteSet has a bit for each byte, so that two sets are the same if they are equal.
type byteSet [4]uint64

func span(low, high byte) byteSet {
	var set byteSet
	for b := int(low); b <= int(high); b++ {
		set[b/64] |= uint64(1) << uint(b%64)
	}
	return set
}

func only(b byte) byteSet { return span(b, b) }

func wordBytes() byteSet {
	return span('0', '9').with(span('A', 'Z')).with(span('a', 'z')).with(only('_'))
}

func spaceBytes() byteSet {
	return span('\t', '\n').with(only('\r')).with(only(' '))
}

func (s byteSet) has(b int) bool { return s[b/64]>>uint(b%64)&1 == 1 }

func (s byteSet) with(more byteSet) byteSet {
	for i := range s {
		s[i] |= more[i]
	}
	return s
}

func (s byteSet) others() byteSet {
	for i := range s {
		s[i] = ^s[i]
	}
	return s
}

// lowest is 0 for a set that has no byte, too; isOne tells the two apart.
func (s byteSet) lowest() byte {
	for b := range 256 {
		if s.has(b) {
			return byte(b)
		}
	}
	return 0
}

func (s byteSet) isOne() bool { return s == only(s.lowest()) }

func (s byteSet) ranges() []Range {
	var out []Range
	for b := range 256 {
		if !s.has(b) {
			continue
		}
		if last := len(out) - 1; last >= 0 && out[last].Hi == b-1 {
			out[last].Hi = b
		} else {
			out = append(out, Range{Lo: b, Hi: b})
		}
	}
	return out
}

// setOf answers false for ranges of what are no bytes.
func setOf(ranges []Range) (byteSet, bool) {
	var set byteSet
	for _, r := range ranges {
		if r.Lo < 0 || r.Lo > r.Hi || r.Hi > 255 {
			return byteSet{}, false
		}
		set = set.with(span(byte(r.Lo), byte(r.Hi)))
	}
	return set, true
}

// node is a piece with its kids themselves in place of their numbers.
type node interface {
	kids() []node
	piece(kids []int) Piece
}

type setNode struct{ set byteSet }

type seqNode struct{ parts []node }

type altNode struct{ seqs []node }

type repeatNode struct {
	least, most int
	lazy        bool
	atom        node
}

type groupNode struct {
	num  int
	body node
}

type startNode struct{}

type endNode struct{}

func (n setNode) kids() []node    { return nil }
func (n seqNode) kids() []node    { return n.parts }
func (n altNode) kids() []node    { return n.seqs }
func (n repeatNode) kids() []node { return []node{n.atom} }
func (n groupNode) kids() []node  { return []node{n.body} }
func (n startNode) kids() []node  { return nil }
func (n endNode) kids() []node    { return nil }

func (n setNode) piece(kids []int) Piece { return Piece{Kind: PSet, Set: n.set.ranges()} }
func (n seqNode) piece(kids []int) Piece { return Piece{Kind: PSeq, Kids: kids} }
func (n altNode) piece(kids []int) Piece { return Piece{Kind: PAlt, Kids: kids} }
func (n repeatNode) piece(kids []int) Piece {
	return Piece{Kind: PRepeat, Min: n.least, Max: n.most, Lazy: n.lazy, Kids: kids}
}
func (n groupNode) piece(kids []int) Piece { return Piece{Kind: PGroup, Num: n.num, Kids: kids} }
func (n startNode) piece(kids []int) Piece { return Piece{Kind: PStart} }
func (n endNode) piece(kids []int) Piece   { return Piece{Kind: PEnd} }

// appendPieces puts a node behind its kids, which is the order in which their texts end.
func appendPieces(out []Piece, n node) []Piece {
	var numbers []int
	for _, kid := range n.kids() {
		out = appendPieces(out, kid)
		numbers = append(numbers, len(out)-1)
	}
	return append(out, n.piece(numbers))
}

// fault is what a reader panics with: the place at which a text goes wrong.
type fault struct{ at int }

// cursor goes over a text byte by byte.
type cursor struct {
	text string
	at   int
}

func (c *cursor) ended() bool { return c.at == len(c.text) }

func (c *cursor) sees(b byte) bool { return !c.ended() && c.text[c.at] == b }

func (c *cursor) take(b byte) bool {
	if !c.sees(b) {
		return false
	}
	c.at++
	return true
}

func (c *cursor) need(b byte) {
	if !c.take(b) {
		panic(fault{c.at})
	}
}

func (c *cursor) next() byte {
	if c.ended() {
		panic(fault{c.at})
	}
	b := c.text[c.at]
	c.at++
	return b
}

func (c *cursor) takeHexDigit() (byte, bool) {
	for i := range len(hexDigits) {
		if c.take(hexDigits[i]) {
			return byte(i), true
		}
	}
	return 0, false
}

// reader reads a pattern; groups are those begun so far, deep those that are open.
type reader struct {
	cursor
	groups int
	deep   int
}

// readTree gives the whole pattern and its number of groups, or no node and the place of the fault.
func readTree(text string) (root node, groups, at int) {
	defer func() {
		switch caught := recover().(type) {
		case nil:
		case fault:
			root, groups, at = nil, 0, caught.at
		default:
			panic(caught)
		}
	}()
	if len(text) > MaxPattern {
		panic(fault{MaxPattern})
	}
	r := reader{cursor: cursor{text: text}}
	root = r.pattern()
	if !r.ended() {
		panic(fault{r.at})
	}
	return root, r.groups, 0
}

func (r *reader) pattern() node {
	seqs := []node{r.seq()}
	for r.take('|') {
		seqs = append(seqs, r.seq())
	}
	if len(seqs) == 1 {
		return seqs[0]
	}
	return altNode{seqs}
}

func (r *reader) seq() node {
	var parts []node
	for !r.ended() && !r.sees('|') && !r.sees(')') {
		parts = append(parts, r.counted(r.atom()))
	}
	return seqNode{parts}
}

func (r *reader) atom() node {
	at := r.at
	switch b := r.next(); b {
	case '(':
		return r.group(at)
	case '[':
		return setNode{r.set()}
	case '.':
		return setNode{only('\n').others()}
	case '^':
		return startNode{}
	case '$':
		return endNode{}
	case '\\':
		return setNode{r.escape()}
	case ')', ']', '{', '}', '*', '+', '?', '|':
		panic(fault{at})
	default:
		return setNode{only(b)}
	}
}

// group reads on behind the ( at the place at.
func (r *reader) group(at int) node {
	if r.groups == MaxGroups || r.deep == MaxDeep {
		panic(fault{at})
	}
	r.groups++
	r.deep++
	num := r.groups
	body := r.pattern()
	r.need(')')
	r.deep--
	return groupNode{num, body}
}

func (r *reader) counted(atom node) node {
	least, most, found := r.counts()
	if !found {
		return atom
	}
	return repeatNode{least: least, most: most, lazy: r.take('?'), atom: atom}
}

func (r *reader) counts() (least, most int, found bool) {
	switch {
	case r.take('*'):
		return 0, noBound, true
	case r.take('+'):
		return 1, noBound, true
	case r.take('?'):
		return 0, 1, true
	case r.take('{'):
		least, most = r.braces()
		return least, most, true
	}
	return 0, 0, false
}

func (r *reader) braces() (least, most int) {
	least = r.number(0)
	most = least
	if r.take(',') {
		most = noBound
		if !r.sees('}') {
			most = r.number(least)
		}
	}
	r.need('}')
	return least, most
}

// number reads a number that is not below least. No digit at all is a fault at
// the same place as a number out of bounds: where its first digit should be.
func (r *reader) number(least int) int {
	from := r.at
	value := 0
	for !r.ended() && isDigit(r.text[r.at]) {
		// Held just above the bound, lest many digits wrap round to a small number.
		value = min(value*10+int(r.next()-'0'), MaxCount+1)
	}
	if r.at == from || value < least || value > MaxCount {
		panic(fault{from})
	}
	return value
}

// set reads on behind a [. The first item is read whatever it begins with: a ] there stands for itself.
func (r *reader) set() byteSet {
	negated := r.take('^')
	set := r.item()
	for !r.take(']') {
		set = set.with(r.item())
	}
	if negated {
		return set.others()
	}
	return set
}

func (r *reader) item() byteSet {
	first := r.part()
	if !first.isOne() || !r.seesRange() {
		return first
	}
	r.need('-')
	from := r.at
	last := r.part()
	if !last.isOne() || last.lowest() < first.lowest() {
		panic(fault{from})
	}
	return span(first.lowest(), last.lowest())
}

// seesRange tells whether a - makes a range: one just ahead of the ] stands for itself.
func (r *reader) seesRange() bool {
	return r.sees('-') && (r.at+1 == len(r.text) || r.text[r.at+1] != ']')
}

func (r *reader) part() byteSet {
	if r.take('\\') {
		return r.escape()
	}
	return only(r.next())
}

// escape reads on behind a \.
func (r *reader) escape() byteSet {
	at := r.at
	switch b := r.next(); b {
	case 'd':
		return span('0', '9')
	case 'w':
		return wordBytes()
	case 's':
		return spaceBytes()
	case 'n':
		return only('\n')
	case 't':
		return only('\t')
	case 'r':
		return only('\r')
	case 'x':
		high := r.hexDigit()
		return only(high*16 + r.hexDigit())
	default:
		if !isPrinted(b) || isLetter(b) || isDigit(b) {
			panic(fault{at})
		}
		return only(b)
	}
}

func (r *reader) hexDigit() byte {
	digit, ok := r.takeHexDigit()
	if !ok {
		panic(fault{r.at})
	}
	return digit
}

func isDigit(b byte) bool { return '0' <= b && b <= '9' }

func isLetter(b byte) bool { return 'a' <= b && b <= 'z' || 'A' <= b && b <= 'Z' }

func isPrinted(b byte) bool { return 33 <= b && b <= 126 }

// grower makes nodes of pieces again, from the last piece back to the first.
// What is read from a text has its kids just ahead, in order, so the piece that
// is asked for is always the last one left; anything else is read from no text.
// As no piece is taken twice, kids that stand in a ring are no danger.
type grower struct {
	pieces []Piece
	left   int
}

// treeOf gives no node for pieces that are not those of one tree.
func treeOf(pieces []Piece) node {
	if len(pieces) == 0 || len(pieces) > maxPieces {
		return nil
	}
	g := grower{pieces: pieces, left: len(pieces)}
	root := g.grow()
	if g.left > 0 {
		return nil
	}
	return root
}

func (g *grower) grow() node {
	g.left--
	piece := g.pieces[g.left]
	kids, ok := g.growKids(piece.Kids)
	if !ok {
		return nil
	}
	return nodeOf(piece, kids)
}

func (g *grower) growKids(numbers []int) ([]node, bool) {
	if len(numbers) > g.left {
		return nil, false
	}
	kids := make([]node, len(numbers))
	for i := len(numbers) - 1; i >= 0; i-- {
		if g.left == 0 || numbers[i] != g.left-1 {
			return nil, false
		}
		kids[i] = g.grow()
		if kids[i] == nil {
			return nil, false
		}
	}
	return kids, true
}

func nodeOf(piece Piece, kids []node) node {
	switch piece.Kind {
	case PSet:
		if set, ok := setOf(piece.Set); ok {
			return setNode{set}
		}
	case PSeq:
		return seqNode{kids}
	case PAlt:
		return altNode{kids}
	case PRepeat:
		if len(kids) == 1 {
			return repeatNode{least: piece.Min, most: piece.Max, lazy: piece.Lazy, atom: kids[0]}
		}
	case PGroup:
		if len(kids) == 1 {
			return groupNode{piece.Num, kids[0]}
		}
	case PStart:
		return startNode{}
	case PEnd:
		return endNode{}
	}
	return nil
}

func appendNode(out []byte, n node) []byte {
	switch x := n.(type) {
	case setNode:
		return appendSet(out, x.set)
	case seqNode:
		for _, part := range x.parts {
			out = appendNode(out, part)
		}
	case altNode:
		for i, seq := range x.seqs {
			if i > 0 {
				out = append(out, '|')
			}
			out = appendNode(out, seq)
		}
	case repeatNode:
		return appendCounts(appendNode(out, x.atom), x)
	case groupNode:
		return append(appendNode(append(out, '('), x.body), ')')
	case startNode:
		return append(out, '^')
	case endNode:
		return append(out, '$')
	}
	return out
}

func appendSet(out []byte, set byteSet) []byte {
	if set.isOne() {
		return appendByte(out, set.lowest())
	}
	if set == (byteSet{}) {
		return append(out, `[^\x00-\xff]`...)
	}
	out = append(out, '[')
	for _, r := range set.ranges() {
		out = appendByte(out, byte(r.Lo))
		if r.Hi > r.Lo {
			out = appendByte(append(out, '-'), byte(r.Hi))
		}
	}
	return append(out, ']')
}

func appendCounts(out []byte, n repeatNode) []byte {
	out = strconv.AppendInt(append(out, '{'), int64(n.least), 10)
	if n.most != n.least {
		out = append(out, ',')
		if n.most != noBound {
			out = strconv.AppendInt(out, int64(n.most), 10)
		}
	}
	out = append(out, '}')
	if n.lazy {
		out = append(out, '?')
	}
	return out
}

func appendByte(out []byte, b byte) []byte {
	switch {
	case !isPrinted(b):
		return appendNumber(out, b)
	case isLetter(b), isDigit(b), b == '_', b == ',', b == ':', b == '=':
		return append(out, b)
	}
	return append(out, '\\', b)
}

func appendNumber(out []byte, b byte) []byte {
	return append(out, '\\', 'x', hexDigits[b/16], hexDigits[b%16])
}

func samePattern(a, b Pattern) bool {
	return a.Ok == b.Ok && a.At == b.At && a.Groups == b.Groups && slices.EqualFunc(a.Pieces, b.Pieces, samePiece)
}

func samePiece(a, b Piece) bool {
	return a.Kind == b.Kind && a.Min == b.Min && a.Max == b.Max && a.Lazy == b.Lazy && a.Num == b.Num &&
		slices.Equal(a.Set, b.Set) && slices.Equal(a.Kids, b.Kids)
}
