package impl

import (
	"slices"
	"strings"
)

// Limits of automata, and ways to mix them.
const (
	MaxStates  = 60
	MaxDerived = 800

	MixUnion = 1
	MixMeet  = 2
	MixMinus = 3
)

// Automaton accepts words.
type Automaton struct {
	Sig    Sig
	Accept [][]bool
	Next   [][][]int64
}

// EmptyAt reports whether an expression has the word of length 0 with an atom.
func EmptyAt(g Sig, e Expr, atom int64) (bool, int64) {
	if !ValidExpr(g, e) {
		return false, ErrInvalid
	}
	if !below(atom, atomCount(g)) {
		return false, ErrRange
	}
	return emptyAt(nodeOf(e), atom), OK
}

// TidyExpr returns the tidy form.
func TidyExpr(g Sig, e Expr) (Expr, int64) {
	if !ValidExpr(g, e) {
		return Expr{}, ErrInvalid
	}
	return exprOf(tidy(nodeOf(e))), OK
}

// tidy returns the tidy form of a node; that of a tidy node is the node itself.
func tidy(n node) node {
	switch x := n.(type) {
	case sumNode:
		return tidySum(tidy(x.left), tidy(x.right))
	case dotNode:
		return tidyDot(tidy(x.left), tidy(x.right))
	case starNode:
		return tidyStar(tidy(x.kid))
	}
	return n
}

// summand is a part of a sum with its text, by which it is ordered.
type summand struct {
	text string
	node node
}

// tidySum returns the tidy form of the sum of two tidy nodes.
func tidySum(left, right node) node {
	if isZero(left) {
		return right
	}
	if isZero(right) {
		return left
	}
	list := summands(right, summands(left, nil))
	slices.SortFunc(list, func(a, b summand) int { return strings.Compare(a.text, b.text) })
	list = slices.CompactFunc(list, func(a, b summand) bool { return a.text == b.text })
	sum := list[0].node
	for _, next := range list[1:] {
		sum = newSum(sum, next.node)
	}
	return sum
}

// summands adds the summands of a tidy node other than EZero to a list.
func summands(n node, list []summand) []summand {
	if x, ok := n.(sumNode); ok {
		return summands(x.right, summands(x.left, list))
	}
	return append(list, summand{nodeText(n), n})
}

// tidyDot returns the tidy form of the product of two tidy nodes.
func tidyDot(left, right node) node {
	if isZero(left) || isZero(right) {
		return zeroNode{}
	}
	if isOne(left) {
		return right
	}
	if isOne(right) {
		return left
	}
	if x, ok := left.(dotNode); ok {
		return tidyDot(x.left, tidyDot(x.right, right))
	}
	return newDot(left, right)
}

func isZero(n node) bool {
	_, ok := n.(zeroNode)
	return ok
}

func isOne(n node) bool {
	_, ok := n.(oneNode)
	return ok
}

// tidyStar returns the tidy form of the repetition of a tidy node.
func tidyStar(kid node) node {
	if isConditionNode(kid) {
		return oneNode{}
	}
	if _, ok := kid.(starNode); ok {
		return kid
	}
	return newStar(kid)
}

func isConditionNode(n node) bool {
	switch x := n.(type) {
	case actNode, starNode:
		return false
	case sumNode:
		return isConditionNode(x.left) && isConditionNode(x.right)
	case dotNode:
		return isConditionNode(x.left) && isConditionNode(x.right)
	}
	return true
}

// Derive returns the derivative.
func Derive(g Sig, e Expr, atom, act int64) (Expr, int64) {
	if !ValidExpr(g, e) {
		return Expr{}, ErrInvalid
	}
	if !below(atom, atomCount(g)) || !below(act, g.Actions) {
		return Expr{}, ErrRange
	}
	n, ok := deriver{atom: atom, act: act}.derive(nodeOf(e))
	if !ok {
		return Expr{}, ErrLimit
	}
	return exprOf(n), OK
}

// deriver derives nodes by an atom and an action. All parts of a tidy node are
// tidy, which need not be found again and again if it is known.
type deriver struct {
	atom   int64
	act    int64
	isTidy bool
}

// tidied returns the tidy form of a part of the node that is derived.
func (d deriver) tidied(n node) node {
	if d.isTidy {
		return n
	}
	return tidy(n)
}

// derive returns the tidy derivative of a node, and false if an expression
// that has to be made tidy for it is too large.
func (d deriver) derive(n node) (node, bool) {
	switch x := n.(type) {
	case actNode:
		if x.num == d.act {
			return oneNode{}, true
		}
	case sumNode:
		return d.deriveSum(x)
	case dotNode:
		return d.deriveDot(x)
	case starNode:
		kid, ok := d.derive(x.kid)
		if !ok || 1+kid.size()+x.size() > MaxDerived {
			return zeroNode{}, false
		}
		return tidyDot(kid, d.tidied(x)), true
	}
	return zeroNode{}, true
}

func (d deriver) deriveSum(x sumNode) (node, bool) {
	left, leftOK := d.derive(x.left)
	right, rightOK := d.derive(x.right)
	if !leftOK || !rightOK || 1+left.size()+right.size() > MaxDerived {
		return zeroNode{}, false
	}
	return tidySum(left, right), true
}

func (d deriver) deriveDot(x dotNode) (node, bool) {
	left, ok := d.derive(x.left)
	size := 1 + left.size() + x.right.size()
	if !ok || size > MaxDerived {
		return zeroNode{}, false
	}
	first := tidyDot(left, d.tidied(x.right))
	if !emptyAt(x.left, d.atom) {
		return first, true
	}
	second, ok := d.derive(x.right)
	if !ok || 1+size+second.size() > MaxDerived {
		return zeroNode{}, false
	}
	return tidySum(first, second), true
}

// DeriveWord returns the derivative by all actions of a word.
func DeriveWord(g Sig, e Expr, w Word) (Expr, int64) { return Expr{}, 0 }

// StatesOf returns all derivatives of an expression.
func StatesOf(g Sig, e Expr) ([]Expr, int64) {
	if !ValidExpr(g, e) {
		return nil, ErrInvalid
	}
	f, ok := findStates(g, nodeOf(e))
	if !ok {
		return nil, ErrLimit
	}
	var list []Expr
	for _, n := range f.states {
		list = append(list, exprOf(n))
	}
	return list, OK
}

// finder numbers the derivatives of an expression as it finds them, and keeps
// where each of them leads.
type finder struct {
	states []node
	next   [][][]int64
	index  map[string]int64
}

// findStates finds all derivatives, and returns false if a limit is exceeded.
func findStates(g Sig, n node) (finder, bool) {
	first := tidy(n)
	f := finder{states: []node{first}, index: map[string]int64{nodeText(first): 0}}
	for s := 0; s < len(f.states); s++ {
		rows := make([][]int64, atomCount(g))
		for atom := range rows {
			rows[atom] = make([]int64, g.Actions)
			for act := range rows[atom] {
				n, ok := deriver{int64(atom), int64(act), true}.derive(f.states[s])
				if !ok {
					return finder{}, false
				}
				rows[atom][act] = f.numberOf(n)
			}
		}
		f.next = append(f.next, rows)
		if len(f.states) > MaxStates {
			return finder{}, false
		}
	}
	return f, true
}

// numberOf returns the number of a derivative, which is added if it is new; -1 for EZero.
func (f *finder) numberOf(n node) int64 {
	if isZero(n) {
		return -1
	}
	text := nodeText(n)
	number, ok := f.index[text]
	if !ok {
		number = int64(len(f.states))
		f.index[text] = number
		f.states = append(f.states, n)
	}
	return number
}

// AutomatonOf returns the automaton of an expression.
func AutomatonOf(g Sig, e Expr) (Automaton, int64) {
	if !ValidExpr(g, e) {
		return Automaton{}, ErrInvalid
	}
	f, ok := findStates(g, nodeOf(e))
	if !ok {
		return Automaton{}, ErrLimit
	}
	a := Automaton{Sig: g, Next: f.next}
	for _, n := range f.states {
		accepts := make([]bool, atomCount(g))
		for atom := range accepts {
			accepts[atom] = emptyAt(n, int64(atom))
		}
		a.Accept = append(a.Accept, accepts)
	}
	return a, OK
}

// counter tells how many words of a length an automaton accepts from a state.
type counter struct {
	automaton Automaton
	rows      [][]int64
}

// newCounter returns a counter for lengths up to the given one. A signature
// has at most 8 atoms and 4 actions, and a word at most MaxWord actions, so no
// number is greater than 8 to the power 11 times 4 to the power 10.
func newCounter(a Automaton, length int64) counter {
	c := counter{automaton: a}
	for n := range length + 1 {
		row := make([]int64, len(a.Accept))
		for s := range row {
			row[s] = c.count(int64(s), n)
		}
		c.rows = append(c.rows, row)
	}
	return c
}

// count counts the words from a state by those that are one action shorter.
func (c counter) count(state, length int64) int64 {
	total := int64(0)
	for atom, accepts := range c.automaton.Accept[state] {
		if length == 0 && accepts {
			total++
		}
		for _, next := range c.automaton.Next[state][atom] {
			if length > 0 && next >= 0 {
				total += c.words(next, length-1)
			}
		}
	}
	return total
}

// words returns how many words of a length are accepted from a state.
func (c counter) words(state, length int64) int64 {
	return c.rows[length][state]
}

// ValidAutomaton reports whether an automaton is valid.
func ValidAutomaton(a Automaton) bool { return false }

// SameAutomaton reports whether two automata are deeply equal.
func SameAutomaton(a, b Automaton) bool { return false }

// AutomatonText returns the text of an automaton.
func AutomatonText(a Automaton) string { return "" }

// ReadAutomaton returns the automaton with the given text.
func ReadAutomaton(text string) (Automaton, int64) { return Automaton{}, 0 }

// RunAutomaton reports whether a word is accepted.
func RunAutomaton(a Automaton, w Word) (bool, int64) { return false, 0 }

// LeastAutomaton returns the automaton with the fewest states.
func LeastAutomaton(a Automaton) (Automaton, int64) { return Automaton{}, 0 }

// MixAutomata returns the automaton of pairs.
func MixAutomata(a, b Automaton, mix int64) (Automaton, int64) { return Automaton{}, 0 }

// AcceptedCount returns the number of accepted words of a length.
func AcceptedCount(a Automaton, length int64) (int64, int64) { return 0, 0 }

// FirstAccepted returns the first accepted word.
func FirstAccepted(a Automaton) (Word, int64) { return Word{}, 0 }

// ExprOf returns an expression of an automaton.
func ExprOf(a Automaton) (Expr, int64) { return Expr{}, 0 }
