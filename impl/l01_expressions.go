package impl

import (
	"slices"
	"strconv"
	"strings"
)

// Codes of errors.
const (
	OK = iota
	ErrInvalid
	ErrRange
	ErrLimit
	ErrState
	ErrSyntax
	ErrNotFound
	ErrBudget
	ErrProof
)

// Limits of expressions and words.
const (
	MaxTests   = 3
	MaxActions = 4
	MaxNodes   = 200
	MaxDepth   = 40
	MaxWord    = 10
	MaxWords   = 2000
	MaxText    = 4000
)

// Kinds of expressions.
const (
	EZero = iota + 1
	EOne
	ETest
	EAct
	ENot
	ESum
	EDot
	EStar
)

// Sig is a signature.
type Sig struct {
	Tests   int64
	Actions int64
}

// Expr is an expression.
type Expr struct {
	Kind int64
	Num  int64
	Kids []Expr
}

// Word is what holds and what is done, in turn.
type Word struct {
	Atoms []int64
	Acts  []int64
}

// codeNames are the names of the error codes, in their order.
var codeNames = [...]string{"ok", "invalid", "range", "limit", "state", "syntax", "notfound", "budget", "proof"}

// CodeName returns the name of an error code.
func CodeName(code int64) string {
	if !below(code, int64(len(codeNames))) {
		return ""
	}
	return codeNames[code]
}

// below reports whether x is one of the n numbers that are counted from 0 on.
func below(x, n int64) bool {
	return 0 <= x && x < n
}

// atomCount returns the number of atoms of a valid signature.
func atomCount(g Sig) int64 {
	return 1 << g.Tests
}

// ValidSig reports whether a signature is valid.
func ValidSig(g Sig) bool {
	return below(g.Tests, MaxTests+1) && below(g.Actions, MaxActions+1)
}

// former checks the form of an expression that may still have so many nodes:
// it stops as soon as there are more, however large the rest is.
type former struct {
	sig   Sig
	nodes int64
}

// fits reports whether e has the form of an expression of at most this depth;
// inNot tells that it lies below an ENot, where only kinds of a condition may be.
func (s *former) fits(e Expr, depth int64, inNot bool) bool {
	s.nodes--
	if s.nodes < 0 || depth < 1 || int64(len(e.Kids)) != kidCount(e.Kind) {
		return false
	}
	if inNot && !isConditionKind(e.Kind) {
		return false
	}
	if !below(e.Num, numCount(s.sig, e.Kind)) {
		return false
	}
	for _, kid := range e.Kids {
		if !s.fits(kid, depth-1, inNot || e.Kind == ENot) {
			return false
		}
	}
	return true
}

// kidCount returns how many kids a kind has, -1 for what is no kind.
func kidCount(kind int64) int64 {
	switch kind {
	case EZero, EOne, ETest, EAct:
		return 0
	case ENot, EStar:
		return 1
	case ESum, EDot:
		return 2
	}
	return -1
}

// numCount returns how many values Num can have, counted from 0 on.
func numCount(g Sig, kind int64) int64 {
	switch kind {
	case ETest:
		return g.Tests
	case EAct:
		return g.Actions
	}
	return 1
}

func isConditionKind(kind int64) bool {
	switch kind {
	case EZero, EOne, ETest, ENot, ESum, EDot:
		return true
	}
	return false
}

// ValidExpr reports whether an expression is valid.
func ValidExpr(g Sig, e Expr) bool {
	s := former{sig: g, nodes: MaxNodes}
	return ValidSig(g) && s.fits(e, MaxDepth, false)
}

// IsCondition reports whether an expression is a condition.
func IsCondition(e Expr) bool {
	if !isConditionKind(e.Kind) {
		return false
	}
	for _, kid := range e.Kids {
		if !IsCondition(kid) {
			return false
		}
	}
	return true
}

// SameExpr reports whether two expressions are deeply equal.
func SameExpr(a, b Expr) bool {
	if a.Kind != b.Kind || a.Num != b.Num || len(a.Kids) != len(b.Kids) {
		return false
	}
	for i := range a.Kids {
		if !SameExpr(a.Kids[i], b.Kids[i]) {
			return false
		}
	}
	return true
}

// ExprSize returns the number of nodes.
func ExprSize(e Expr) int64 {
	size := int64(1)
	for _, kid := range e.Kids {
		size += ExprSize(kid)
	}
	return size
}

// node is an expression that has the form of one. Nodes never change, so that
// they can be shared; memory is made new when they become an Expr again.
type node interface {
	size() int64
}

type zeroNode struct{}

type oneNode struct{}

type testNode struct{ num int64 }

type actNode struct{ num int64 }

// The nodes with kids remember their size, which limits ask for again and again.
type notNode struct {
	kid   node
	nodes int64
}

type sumNode struct {
	left, right node
	nodes       int64
}

type dotNode struct {
	left, right node
	nodes       int64
}

type starNode struct {
	kid   node
	nodes int64
}

func (zeroNode) size() int64   { return 1 }
func (oneNode) size() int64    { return 1 }
func (testNode) size() int64   { return 1 }
func (actNode) size() int64    { return 1 }
func (n notNode) size() int64  { return n.nodes }
func (n sumNode) size() int64  { return n.nodes }
func (n dotNode) size() int64  { return n.nodes }
func (n starNode) size() int64 { return n.nodes }

func newNot(kid node) node {
	return notNode{kid, 1 + kid.size()}
}

func newSum(left, right node) node {
	return sumNode{left, right, 1 + left.size() + right.size()}
}

func newDot(left, right node) node {
	return dotNode{left, right, 1 + left.size() + right.size()}
}

func newStar(kid node) node {
	return starNode{kid, 1 + kid.size()}
}

// nodeOf returns the node of an expression that has the form of one.
func nodeOf(e Expr) node {
	switch e.Kind {
	case EOne:
		return oneNode{}
	case ETest:
		return testNode{e.Num}
	case EAct:
		return actNode{e.Num}
	case ENot:
		return newNot(nodeOf(e.Kids[0]))
	case ESum:
		return newSum(nodeOf(e.Kids[0]), nodeOf(e.Kids[1]))
	case EDot:
		return newDot(nodeOf(e.Kids[0]), nodeOf(e.Kids[1]))
	case EStar:
		return newStar(nodeOf(e.Kids[0]))
	}
	return zeroNode{}
}

// exprOf returns the expression of a node in new memory.
func exprOf(n node) Expr {
	switch x := n.(type) {
	case oneNode:
		return Expr{Kind: EOne}
	case testNode:
		return Expr{Kind: ETest, Num: x.num}
	case actNode:
		return Expr{Kind: EAct, Num: x.num}
	case notNode:
		return Expr{Kind: ENot, Kids: []Expr{exprOf(x.kid)}}
	case sumNode:
		return Expr{Kind: ESum, Kids: []Expr{exprOf(x.left), exprOf(x.right)}}
	case dotNode:
		return Expr{Kind: EDot, Kids: []Expr{exprOf(x.left), exprOf(x.right)}}
	case starNode:
		return Expr{Kind: EStar, Kids: []Expr{exprOf(x.kid)}}
	}
	return Expr{Kind: EZero}
}

// nodeText returns the text of a node, of any length.
func nodeText(n node) string {
	var out strings.Builder
	out.Grow(int(4 * n.size()))
	writeNode(&out, n)
	return out.String()
}

func writeNode(out *strings.Builder, n node) {
	switch x := n.(type) {
	case zeroNode:
		out.WriteString("0")
	case oneNode:
		out.WriteString("1")
	case testNode:
		writeNumber(out, "t", x.num)
	case actNode:
		writeNumber(out, "a", x.num)
	case notNode:
		out.WriteString("~")
		writeNode(out, x.kid)
	case sumNode:
		writeBoth(out, x.left, " + ", x.right)
	case dotNode:
		writeBoth(out, x.left, " ", x.right)
	case starNode:
		writeNode(out, x.kid)
		out.WriteString("*")
	}
}

func writeBoth(out *strings.Builder, left node, between string, right node) {
	out.WriteString("(")
	writeNode(out, left)
	out.WriteString(between)
	writeNode(out, right)
	out.WriteString(")")
}

func writeNumber(out *strings.Builder, before string, number int64) {
	out.WriteString(before)
	out.WriteString(strconv.FormatInt(number, 10))
}

// ExprText returns the text of an expression.
func ExprText(g Sig, e Expr) string {
	if !ValidExpr(g, e) {
		return ""
	}
	return nodeText(nodeOf(e))
}

// fault is what a parser panics with where its text cannot go on.
type fault struct{}

// parser reads a text from its beginning on.
type parser struct {
	text string
	at   int
}

func (p *parser) fail() {
	panic(fault{})
}

// accept goes on behind part if the text goes on with it.
func (p *parser) accept(part string) bool {
	if !strings.HasPrefix(p.text[p.at:], part) {
		return false
	}
	p.at += len(part)
	return true
}

func (p *parser) expect(part string) {
	if !p.accept(part) {
		p.fail()
	}
}

func (p *parser) atEnd() bool {
	return p.at == len(p.text)
}

// maxDigits is a number of digits with which no number overflows.
const maxDigits = 18

// number reads a number in decimal; a 0 in front belongs to no number but 0.
func (p *parser) number() int64 {
	if p.accept("0") {
		return 0
	}
	start, number := p.at, int64(0)
	for !p.atEnd() && '0' <= p.text[p.at] && p.text[p.at] <= '9' {
		if p.at-start == maxDigits {
			p.fail()
		}
		number = 10*number + int64(p.text[p.at]-'0')
		p.at++
	}
	if p.at == start {
		p.fail()
	}
	return number
}

// parsed reports whether read finds no fault and comes to the end of the text.
func parsed(text string, read func(p *parser)) (ok bool) {
	defer func() {
		if recover() != nil {
			ok = false
		}
	}()
	p := parser{text: text}
	read(&p)
	return p.atEnd()
}

// expr reads an expression: "~" stands only in front of conditions, and no
// condition ends with "*", so each "~" binds closer than the "*" behind it.
func (p *parser) expr() node {
	nots := 0
	for p.accept("~") {
		nots++
	}
	n := p.primary()
	for range nots {
		n = newNot(n)
	}
	for p.accept("*") {
		n = newStar(n)
	}
	return n
}

func (p *parser) primary() node {
	switch {
	case p.accept("0"):
		return zeroNode{}
	case p.accept("1"):
		return oneNode{}
	case p.accept("t"):
		return testNode{p.number()}
	case p.accept("a"):
		return actNode{p.number()}
	}
	p.expect("(")
	left, build := p.expr(), newSum
	if !p.accept(" + ") {
		p.expect(" ")
		build = newDot
	}
	right := p.expr()
	p.expect(")")
	return build(left, right)
}

// ReadExpr returns the expression with the given text.
func ReadExpr(g Sig, text string) (Expr, int64) {
	if !ValidSig(g) {
		return Expr{}, ErrInvalid
	}
	if len(text) > MaxText {
		return Expr{}, ErrRange
	}
	var e Expr
	ok := parsed(text, func(p *parser) { e = exprOf(p.expr()) })
	if !ok || !ValidExpr(g, e) {
		return Expr{}, ErrSyntax
	}
	return e, OK
}

// holdsAt reports whether a test holds at an atom.
func holdsAt(test, atom int64) bool {
	return atom>>test&1 == 1
}

// emptyAt reports whether a node has the word of length 0 with an atom.
func emptyAt(n node, atom int64) bool {
	switch x := n.(type) {
	case oneNode, starNode:
		return true
	case testNode:
		return holdsAt(x.num, atom)
	case notNode:
		return !emptyAt(x.kid, atom)
	case sumNode:
		return emptyAt(x.left, atom) || emptyAt(x.right, atom)
	case dotNode:
		return emptyAt(x.left, atom) && emptyAt(x.right, atom)
	}
	return false
}

// TruthAt reports whether a condition holds at an atom.
func TruthAt(g Sig, e Expr, atom int64) (bool, int64) {
	if !ValidExpr(g, e) {
		return false, ErrInvalid
	}
	if !IsCondition(e) {
		return false, ErrState
	}
	if !below(atom, atomCount(g)) {
		return false, ErrRange
	}
	return emptyAt(nodeOf(e), atom), OK
}

// ValidWord reports whether a word is valid.
func ValidWord(g Sig, w Word) bool {
	if !ValidSig(g) || len(w.Acts) > MaxWord || len(w.Atoms) != len(w.Acts)+1 {
		return false
	}
	for _, atom := range w.Atoms {
		if !below(atom, atomCount(g)) {
			return false
		}
	}
	for _, act := range w.Acts {
		if !below(act, g.Actions) {
			return false
		}
	}
	return true
}

// SameWord reports whether two words are deeply equal.
func SameWord(v, w Word) bool {
	return slices.Equal(v.Atoms, w.Atoms) && slices.Equal(v.Acts, w.Acts)
}

// WordText returns the text of a word.
func WordText(g Sig, w Word) string {
	if !ValidWord(g, w) {
		return ""
	}
	var out strings.Builder
	writeNumber(&out, "", w.Atoms[0])
	for i, act := range w.Acts {
		writeNumber(&out, " a", act)
		writeNumber(&out, " ", w.Atoms[i+1])
	}
	return out.String()
}

// word reads a word, which stops to be one where it becomes too long.
func (p *parser) word() Word {
	w := Word{Atoms: []int64{p.number()}}
	for p.accept(" a") {
		if len(w.Acts) == MaxWord {
			p.fail()
		}
		w.Acts = append(w.Acts, p.number())
		p.expect(" ")
		w.Atoms = append(w.Atoms, p.number())
	}
	return w
}

// ReadWord returns the word with the given text.
func ReadWord(g Sig, text string) (Word, int64) {
	if !ValidSig(g) {
		return Word{}, ErrInvalid
	}
	var w Word
	ok := parsed(text, func(p *parser) { w = p.word() })
	if !ok || !ValidWord(g, w) {
		return Word{}, ErrSyntax
	}
	return w, OK
}

// FuseWords returns two words one behind the other.
func FuseWords(g Sig, v, w Word) (Word, int64) {
	if !ValidWord(g, v) || !ValidWord(g, w) {
		return Word{}, ErrInvalid
	}
	if v.Atoms[len(v.Acts)] != w.Atoms[0] {
		return Word{}, ErrState
	}
	if len(v.Acts)+len(w.Acts) > MaxWord {
		return Word{}, ErrLimit
	}
	return Word{Atoms: slices.Concat(v.Atoms, w.Atoms[1:]), Acts: slices.Concat(v.Acts, w.Acts)}, OK
}

// spans tells for two places of a word whether what lies between them, the
// atoms at both places with it, is a word of an expression.
type spans [MaxWord + 1][MaxWord + 1]bool

// spansOf finds the words of a node among the parts of w. Parts that follow
// one another have the atom between them in common, as fused words do.
func spansOf(n node, w Word) spans {
	var s spans
	switch x := n.(type) {
	case oneNode, testNode, notNode:
		for i, atom := range w.Atoms {
			s[i][i] = emptyAt(n, atom)
		}
	case actNode:
		for i, act := range w.Acts {
			s[i][i+1] = act == x.num
		}
	case sumNode:
		s = eitherSpan(spansOf(x.left, w), spansOf(x.right, w))
	case dotNode:
		s = fusedSpans(spansOf(x.left, w), spansOf(x.right, w))
	case starNode:
		s = repeatedSpans(spansOf(x.kid, w))
	}
	return s
}

func eitherSpan(a, b spans) spans {
	for i := range a {
		for k := range a {
			a[i][k] = a[i][k] || b[i][k]
		}
	}
	return a
}

func fusedSpans(a, b spans) spans {
	var s spans
	for i := range a {
		for k := range a {
			for j := range a {
				s[i][k] = s[i][k] || a[i][j] && b[j][k]
			}
		}
	}
	return s
}

func repeatedSpans(a spans) spans {
	for i := range a {
		a[i][i] = true
	}
	for j := range a {
		for i := range a {
			for k := range a {
				a[i][k] = a[i][k] || a[i][j] && a[j][k]
			}
		}
	}
	return a
}

// Matches reports whether a word is one of an expression.
func Matches(g Sig, e Expr, w Word) (bool, int64) {
	if !ValidExpr(g, e) || !ValidWord(g, w) {
		return false, ErrInvalid
	}
	return spansOf(nodeOf(e), w)[0][len(w.Acts)], OK
}

// counterOf returns the counter of the words of e, for two functions that have
// the same arguments and the same first errors.
func counterOf(g Sig, e Expr, length int64) (counter, int64) {
	if !ValidExpr(g, e) {
		return counter{}, ErrInvalid
	}
	if !below(length, MaxWord+1) {
		return counter{}, ErrRange
	}
	a, code := AutomatonOf(g, e)
	if code != OK {
		return counter{}, code
	}
	return newCounter(a, length), OK
}

// WordsUpTo returns all words of an expression up to a length.
func WordsUpTo(g Sig, e Expr, length int64) ([]Word, int64) {
	c, code := counterOf(g, e, length)
	if code != OK {
		return nil, code
	}
	total := int64(0)
	for n := range length + 1 {
		total += c.words(0, n)
	}
	if total > MaxWords {
		return nil, ErrLimit
	}
	l := lister{counter: c}
	for n := range length + 1 {
		l.list(0, n)
	}
	return l.found, OK
}

// CountWords returns the number of words of an expression with a length.
func CountWords(g Sig, e Expr, length int64) (int64, int64) {
	c, code := counterOf(g, e, length)
	if code != OK {
		return 0, code
	}
	return c.words(0, length), OK
}

// lister collects the words of an automaton; before is how the word that is
// being made begins, up to the action in front of the state.
type lister struct {
	counter counter
	before  Word
	found   []Word
}

// list finds the words of a length that go on from a state, in order.
func (l *lister) list(state, length int64) {
	if l.counter.words(state, length) == 0 {
		return
	}
	a, place := l.counter.automaton, len(l.before.Acts)
	for atom, accepts := range a.Accept[state] {
		l.before.Atoms = append(l.before.Atoms[:place], int64(atom))
		if length == 0 && accepts {
			l.found = append(l.found, copyWord(l.before))
		}
		for act, next := range a.Next[state][atom] {
			if length > 0 && next >= 0 {
				l.before.Acts = append(l.before.Acts[:place], int64(act))
				l.list(next, length-1)
				l.before.Acts = l.before.Acts[:place]
			}
		}
	}
}

// copyWord returns an equal word in new memory, also where a list is empty.
func copyWord(w Word) Word {
	return Word{Atoms: slices.Concat(w.Atoms), Acts: slices.Concat(w.Acts)}
}

// ReverseExpr returns the expression of the reversed words.
func ReverseExpr(g Sig, e Expr) (Expr, int64) {
	if !ValidExpr(g, e) {
		return Expr{}, ErrInvalid
	}
	return exprOf(reversed(nodeOf(e))), OK
}

func reversed(n node) node {
	switch x := n.(type) {
	case notNode:
		return newNot(reversed(x.kid))
	case sumNode:
		return newSum(reversed(x.left), reversed(x.right))
	case dotNode:
		return newDot(reversed(x.right), reversed(x.left))
	case starNode:
		return newStar(reversed(x.kid))
	}
	return n
}

// ReverseWord returns the reversed word.
func ReverseWord(g Sig, w Word) (Word, int64) {
	if !ValidWord(g, w) {
		return Word{}, ErrInvalid
	}
	v := copyWord(w)
	slices.Reverse(v.Atoms)
	slices.Reverse(v.Acts)
	return v, OK
}

// ReplaceActions replaces actions by expressions.
func ReplaceActions(g Sig, e Expr, by []Expr) (Expr, int64) {
	if !ValidExpr(g, e) {
		return Expr{}, ErrInvalid
	}
	for _, x := range by {
		if !ValidExpr(g, x) {
			return Expr{}, ErrInvalid
		}
	}
	if int64(len(by)) != g.Actions {
		return Expr{}, ErrRange
	}
	var nodes []node
	for _, x := range by {
		nodes = append(nodes, nodeOf(x))
	}
	result := exprOf(replaced(nodeOf(e), nodes))
	if !ValidExpr(g, result) {
		return Expr{}, ErrLimit
	}
	return result, OK
}

func replaced(n node, by []node) node {
	switch x := n.(type) {
	case actNode:
		return by[x.num]
	case sumNode:
		return newSum(replaced(x.left, by), replaced(x.right, by))
	case dotNode:
		return newDot(replaced(x.left, by), replaced(x.right, by))
	case starNode:
		return newStar(replaced(x.kid, by))
	}
	return n
}
