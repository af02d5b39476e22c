package impl

import (
	"slices"
	"strings"
)

// Limits of automata, and ways to mix them.
const (
	MaxStates  = 60
	MaxDerived = 800

	MixUnion = 1
	MixMeet  = 2
	MixMinus = 3
)

// Automaton accepts words.
type Automaton struct {
	Sig    Sig
	Accept [][]bool
	Next   [][][]int64
}

// EmptyAt reports whether an expression has the word of length 0 with an atom.
func EmptyAt(g Sig, e Expr, atom int64) (bool, int64) {
	if !ValidExpr(g, e) {
		return false, ErrInvalid
	}
	if !below(atom, atomCount(g)) {
		return false, ErrRange
	}
	return emptyAt(nodeOf(e), atom), OK
}

// TidyExpr returns the tidy form.
func TidyExpr(g Sig, e Expr) (Expr, int64) {
	if !ValidExpr(g, e) {
		return Expr{}, ErrInvalid
	}
	return exprOf(tidy(nodeOf(e))), OK
}

// tidy returns the tidy form of a node; that of a tidy node is the node itself.
func tidy(n node) node {
	return partsOf(n).whole
}

// tidyParts are the tidy forms of a node and of its kids, and so on, where they
// are not the same: nil stands for those of a tidy node, whose parts are tidy.
type tidyParts struct {
	whole       node
	left, right *tidyParts
}

// partsOf finds the tidy forms; an only kid is the left one.
func partsOf(n node) *tidyParts {
	p := &tidyParts{whole: n}
	switch x := n.(type) {
	case sumNode:
		p.left, p.right = partsOf(x.left), partsOf(x.right)
		p.whole = tidySum(p.left.whole, p.right.whole)
	case dotNode:
		p.left, p.right = partsOf(x.left), partsOf(x.right)
		p.whole = tidyDot(p.left.whole, p.right.whole)
	case starNode:
		p.left = partsOf(x.kid)
		p.whole = tidyStar(p.left.whole)
	}
	return p
}

// of returns the tidy form of n, whose parts these are.
func (p *tidyParts) of(n node) node {
	if p == nil {
		return n
	}
	return p.whole
}

// kids returns the parts of both kids.
func (p *tidyParts) kids() (*tidyParts, *tidyParts) {
	if p == nil {
		return nil, nil
	}
	return p.left, p.right
}

// summand is a part of a sum with its text, by which it is ordered.
type summand struct {
	text string
	node node
}

// tidySum returns the tidy form of the sum of two tidy nodes.
func tidySum(left, right node) node {
	if isZero(left) {
		return right
	}
	if isZero(right) {
		return left
	}
	list := summands(right, summands(left, nil))
	slices.SortFunc(list, func(a, b summand) int { return strings.Compare(a.text, b.text) })
	list = slices.CompactFunc(list, func(a, b summand) bool { return a.text == b.text })
	sum := list[0].node
	for _, next := range list[1:] {
		sum = newSum(sum, next.node)
	}
	return sum
}

// summands adds the summands of a tidy node other than EZero to a list.
func summands(n node, list []summand) []summand {
	if x, ok := n.(sumNode); ok {
		return summands(x.right, summands(x.left, list))
	}
	return append(list, summand{nodeText(n), n})
}

// tidyDot returns the tidy form of the product of two tidy nodes.
func tidyDot(left, right node) node {
	return productOf(left).times(right).whole()
}

// product is a tidy node whose nodes are still to be made: the factors in front
// of the last node, which may be a product too. It grows at its end, where its
// nodes would have to be made anew each time.
type product struct {
	front []node
	last  node
	nodes int64
}

func productOf(n node) product {
	return product{nil, n, n.size()}
}

// times returns the tidy product with a tidy node behind it; p itself must not
// be used any more.
func (p product) times(right node) product {
	switch {
	case isZero(p.last) || isZero(right):
		return productOf(zeroNode{})
	case isOne(p.last):
		return productOf(right)
	case isOne(right):
		return p
	}
	nodes := 1 + p.nodes + right.size()
	for {
		x, ok := p.last.(dotNode)
		if !ok {
			return product{append(p.front, p.last), right, nodes}
		}
		p.front, p.last = append(p.front, x.left), x.right
	}
}

// whole makes the nodes.
func (p product) whole() node {
	n := p.last
	for _, factor := range slices.Backward(p.front) {
		n = newDot(factor, n)
	}
	return n
}

func isZero(n node) bool {
	_, ok := n.(zeroNode)
	return ok
}

func isOne(n node) bool {
	_, ok := n.(oneNode)
	return ok
}

// tidyStar returns the tidy form of the repetition of a tidy node.
func tidyStar(kid node) node {
	if isConditionNode(kid) {
		return oneNode{}
	}
	if _, ok := kid.(starNode); ok {
		return kid
	}
	return newStar(kid)
}

func isConditionNode(n node) bool {
	switch x := n.(type) {
	case actNode, starNode:
		return false
	case sumNode:
		return isConditionNode(x.left) && isConditionNode(x.right)
	case dotNode:
		return isConditionNode(x.left) && isConditionNode(x.right)
	}
	return true
}

// Derive returns the derivative.
func Derive(g Sig, e Expr, atom, act int64) (Expr, int64) {
	if !ValidExpr(g, e) {
		return Expr{}, ErrInvalid
	}
	if !below(atom, atomCount(g)) || !below(act, g.Actions) {
		return Expr{}, ErrRange
	}
	n := nodeOf(e)
	derived, ok := deriver{atom, act}.derive(n, partsOf(n))
	if !ok {
		return Expr{}, ErrLimit
	}
	return exprOf(derived.whole()), OK
}

// deriver derives nodes by an atom and an action.
type deriver struct {
	atom int64
	act  int64
}

// derive returns the tidy derivative of a node with these parts, and false if
// an expression that has to be made tidy for it is too large.
func (d deriver) derive(n node, p *tidyParts) (product, bool) {
	switch x := n.(type) {
	case actNode:
		if x.num == d.act {
			return productOf(oneNode{}), true
		}
	case sumNode:
		return d.deriveSum(x, p)
	case dotNode:
		return d.deriveDot(x, p)
	case starNode:
		kidParts, _ := p.kids()
		kid, ok := d.derive(x.kid, kidParts)
		if !ok || 1+kid.nodes+x.size() > MaxDerived {
			return product{}, false
		}
		return kid.times(p.of(x)), true
	}
	return productOf(zeroNode{}), true
}

func (d deriver) deriveSum(x sumNode, p *tidyParts) (product, bool) {
	leftParts, rightParts := p.kids()
	left, leftOK := d.derive(x.left, leftParts)
	right, rightOK := d.derive(x.right, rightParts)
	if !leftOK || !rightOK || 1+left.nodes+right.nodes > MaxDerived {
		return product{}, false
	}
	return productOf(tidySum(left.whole(), right.whole())), true
}

func (d deriver) deriveDot(x dotNode, p *tidyParts) (product, bool) {
	leftParts, rightParts := p.kids()
	left, ok := d.derive(x.left, leftParts)
	size := 1 + left.nodes + x.right.size()
	if !ok || size > MaxDerived {
		return product{}, false
	}
	first := left.times(rightParts.of(x.right))
	if !emptyAt(x.left, d.atom) {
		return first, true
	}
	second, ok := d.derive(x.right, rightParts)
	if !ok || 1+size+second.nodes > MaxDerived {
		return product{}, false
	}
	return productOf(tidySum(first.whole(), second.whole())), true
}

// DeriveWord returns the derivative by all actions of a word.
func DeriveWord(g Sig, e Expr, w Word) (Expr, int64) {
	if !ValidExpr(g, e) || !ValidWord(g, w) {
		return Expr{}, ErrInvalid
	}
	n := nodeOf(e)
	parts := partsOf(n)
	for i, act := range w.Acts {
		derived, ok := deriver{w.Atoms[i], act}.derive(n, parts)
		if !ok {
			return Expr{}, ErrLimit
		}
		// What has been derived once is tidy.
		n, parts = derived.whole(), nil
	}
	return exprOf(parts.of(n)), OK
}

// rules tell how the states of an automaton behave that are still to be found.
type rules[S any, K comparable] struct {
	// keyOf returns the same for states that are the same.
	keyOf   func(s S) K
	accepts func(s S, atom int64) bool
	// next returns ErrNotFound where no word goes on; each other code than OK
	// ends the search.
	next func(s S, atom, act int64) (S, int64)
}

// found returns the automaton of all states that can be reached from the first
// one, numbered as they are found, and these states.
func found[S any, K comparable](g Sig, first S, r rules[S, K]) (Automaton, []S, int64) {
	a, states, index := Automaton{Sig: g}, []S{first}, map[K]int64{r.keyOf(first): 0}
	for s := 0; s < len(states); s++ {
		accepts, rows := make([]bool, atomCount(g)), make([][]int64, atomCount(g))
		for atom := range rows {
			accepts[atom] = r.accepts(states[s], int64(atom))
			rows[atom] = make([]int64, g.Actions)
			for act := range rows[atom] {
				next, code := r.next(states[s], int64(atom), int64(act))
				if code == ErrNotFound {
					rows[atom][act] = -1
					continue
				}
				if code != OK {
					return Automaton{}, nil, code
				}
				number := numberIn(index, r.keyOf(next))
				if number == int64(len(states)) {
					states = append(states, next)
				}
				rows[atom][act] = number
			}
		}
		if len(states) > MaxStates {
			return Automaton{}, nil, ErrLimit
		}
		a.Accept, a.Next = append(a.Accept, accepts), append(a.Next, rows)
	}
	return a, states, OK
}

// numberIn returns the number of a key; a new one gets the next number.
func numberIn[K comparable](index map[K]int64, key K) int64 {
	number, ok := index[key]
	if !ok {
		number = int64(len(index))
		index[key] = number
	}
	return number
}

// derivatives finds the automaton of an expression, and its states.
func derivatives(g Sig, e Expr) (Automaton, []node, int64) {
	if !ValidExpr(g, e) {
		return Automaton{}, nil, ErrInvalid
	}
	return found(g, tidy(nodeOf(e)), rules[node, string]{nodeText, emptyAt, nextDerivative})
}

// nextDerivative derives a tidy node.
func nextDerivative(n node, atom, act int64) (node, int64) {
	derived, ok := deriver{atom, act}.derive(n, nil)
	if !ok {
		return nil, ErrLimit
	}
	next := derived.whole()
	if isZero(next) {
		return nil, ErrNotFound
	}
	return next, OK
}

// StatesOf returns all derivatives of an expression.
func StatesOf(g Sig, e Expr) ([]Expr, int64) {
	_, states, code := derivatives(g, e)
	var list []Expr
	for _, n := range states {
		list = append(list, exprOf(n))
	}
	return list, code
}

// AutomatonOf returns the automaton of an expression.
func AutomatonOf(g Sig, e Expr) (Automaton, int64) {
	a, _, code := derivatives(g, e)
	return a, code
}

// counter tells how many words of a length an automaton accepts from a state.
type counter struct {
	automaton Automaton
	rows      [][]int64
}

// newCounter returns a counter for lengths up to the given one. A signature
// has at most 8 atoms and 4 actions, and a word at most MaxWord actions, so no
// number is greater than 8 to the power 11 times 4 to the power 10.
func newCounter(a Automaton, length int64) counter {
	c := counter{automaton: a}
	for n := range length + 1 {
		// A word ends in its state if it has no action, and leads on otherwise.
		count := [...]func(state, length int64) int64{c.ending, c.leading}[min(n, 1)]
		row := make([]int64, len(a.Accept))
		for s := range row {
			row[s] = count(int64(s), n)
		}
		c.rows = append(c.rows, row)
	}
	return c
}

// ending counts the words of length 0 from a state.
func (c counter) ending(state, length int64) int64 {
	total := int64(0)
	for _, accepts := range c.automaton.Accept[state] {
		if accepts {
			total++
		}
	}
	return total
}

// leading counts the words from a state by those that are one action shorter.
func (c counter) leading(state, length int64) int64 {
	total := int64(0)
	for _, row := range c.automaton.Next[state] {
		for _, next := range row {
			if next >= 0 {
				total += c.words(next, length-1)
			}
		}
	}
	return total
}

// words returns how many words of a length are accepted from a state.
func (c counter) words(state, length int64) int64 {
	return c.rows[length][state]
}

// firstWord returns the first word of a length, if there is one.
func (c counter) firstWord(length int64) Word {
	w, state := Word{}, int64(0)
	for n := length; n > 0; n-- {
		atom, act := c.firstStep(state, n)
		w.Atoms, w.Acts = append(w.Atoms, atom), append(w.Acts, act)
		state = c.automaton.Next[state][atom][act]
	}
	w.Atoms = append(w.Atoms, int64(slices.Index(c.automaton.Accept[state], true)))
	return w
}

// firstStep returns the atom and the action with which the first word begins.
func (c counter) firstStep(state, length int64) (int64, int64) {
	for atom, row := range c.automaton.Next[state] {
		for act, next := range row {
			if next >= 0 && c.words(next, length-1) > 0 {
				return int64(atom), int64(act)
			}
		}
	}
	return 0, 0
}

// ValidAutomaton reports whether an automaton is valid.
func ValidAutomaton(a Automaton) bool {
	states := int64(len(a.Accept))
	if !ValidSig(a.Sig) || states < 1 || states > MaxStates || int64(len(a.Next)) != states {
		return false
	}
	for s, rows := range a.Next {
		if int64(len(a.Accept[s])) != atomCount(a.Sig) || int64(len(rows)) != atomCount(a.Sig) {
			return false
		}
		for _, row := range rows {
			if int64(len(row)) != a.Sig.Actions {
				return false
			}
			for _, next := range row {
				if next != -1 && !below(next, states) {
					return false
				}
			}
		}
	}
	return true
}

// sameRows reports whether two tables are equal.
func sameRows[T comparable](a, b [][]T) bool {
	return slices.EqualFunc(a, b, slices.Equal[[]T])
}

// SameAutomaton reports whether two automata are deeply equal.
func SameAutomaton(a, b Automaton) bool {
	return a.Sig == b.Sig && sameRows(a.Accept, b.Accept) && slices.EqualFunc(a.Next, b.Next, sameRows[int64])
}

// writeSig writes how a text begins that names its signature.
func writeSig(out *strings.Builder, before string, g Sig) {
	writeNumber(out, before, g.Tests)
	writeNumber(out, " ", g.Actions)
}

// AutomatonText returns the text of an automaton.
func AutomatonText(a Automaton) string {
	if !ValidAutomaton(a) {
		return ""
	}
	var out strings.Builder
	writeSig(&out, "automaton ", a.Sig)
	out.WriteString("\n")
	for s, accepts := range a.Accept {
		out.WriteString("state")
		for atom, row := range a.Next[s] {
			writeRow(&out, accepts[atom], row)
		}
		out.WriteString("\n")
	}
	return out.String()
}

// writeRow writes what a state does with an atom.
func writeRow(out *strings.Builder, accepts bool, row []int64) {
	if accepts {
		out.WriteString(" +")
	} else {
		out.WriteString(" -")
	}
	for _, next := range row {
		if next < 0 {
			out.WriteString(":.")
		} else {
			writeNumber(out, ":", next)
		}
	}
}

// ReadAutomaton returns the automaton with the given text.
func ReadAutomaton(text string) (Automaton, int64) {
	var a Automaton
	ok := parsed(text, func(p *parser) { a = p.automaton() })
	if !ok || !ValidAutomaton(a) {
		return Automaton{}, ErrSyntax
	}
	return a, OK
}

// sig reads how a text begins that names its signature, valid or not.
func (p *parser) sig(before string) Sig {
	var g Sig
	p.expect(before)
	g.Tests = p.number()
	p.expect(" ")
	g.Actions = p.number()
	return g
}

// automaton reads an automaton, whose states may still lead to others that do
// not exist.
func (p *parser) automaton() Automaton {
	var a Automaton
	a.Sig = p.sig("automaton ")
	p.expect("\n")
	if !ValidSig(a.Sig) {
		p.fail()
	}
	for !p.atEnd() {
		if len(a.Accept) == MaxStates {
			p.fail()
		}
		accepts, rows := p.state(a.Sig)
		a.Accept, a.Next = append(a.Accept, accepts), append(a.Next, rows)
	}
	return a
}

func (p *parser) state(g Sig) ([]bool, [][]int64) {
	accepts, rows := make([]bool, atomCount(g)), make([][]int64, atomCount(g))
	p.expect("state")
	for atom := range rows {
		p.expect(" ")
		accepts[atom] = p.accept("+")
		if !accepts[atom] {
			p.expect("-")
		}
		rows[atom] = make([]int64, g.Actions)
		for act := range rows[atom] {
			p.expect(":")
			rows[atom][act] = p.next()
		}
	}
	p.expect("\n")
	return accepts, rows
}

// next reads the number of a state, or what stands for none.
func (p *parser) next() int64 {
	if p.accept(".") {
		return -1
	}
	return p.number()
}

// acceptsAt reports whether a state, or -1, accepts an atom.
func acceptsAt(a Automaton, state, atom int64) bool {
	return state >= 0 && a.Accept[state][atom]
}

// nextOf returns where a state, or -1, leads.
func nextOf(a Automaton, state, atom, act int64) int64 {
	if state < 0 {
		return -1
	}
	return a.Next[state][atom][act]
}

// RunAutomaton reports whether a word is accepted.
func RunAutomaton(a Automaton, w Word) (bool, int64) {
	if !ValidAutomaton(a) || !ValidWord(a.Sig, w) {
		return false, ErrInvalid
	}
	state := int64(0)
	for i, act := range w.Acts {
		state = nextOf(a, state, w.Atoms[i], act)
	}
	return acceptsAt(a, state, w.Atoms[len(w.Acts)]), OK
}

// maxAtoms is the greatest number of atoms.
const maxAtoms = 1 << MaxTests

// outlook is what a state accepts, and the classes to which it leads.
type outlook struct {
	accept [maxAtoms]bool
	next   [maxAtoms][MaxActions]int64
}

// classes are the classes of the states of an automaton, where that of a state
// is found at its number plus 1: at the beginning stands -1, from which nothing
// is accepted, so that the dead states are those of its class.
type classes []int64

func (c classes) of(state int64) int64 {
	return c[state+1]
}

func (c classes) isDead(state int64) bool {
	return c.of(state) == c.of(-1)
}

// classesOf returns the classes of equivalent states: at first all are in one
// class, and a class is parted until all states in it have the same outlook.
func classesOf(a Automaton) classes {
	c, count := make(classes, len(a.Accept)+1), 1
	for {
		finer, more := refined(outlooks(a, c))
		if more == count {
			return c
		}
		c, count = finer, more
	}
}

// refined returns the classes of equal keys, and how many there are.
func refined[K comparable](keys []K) ([]int64, int) {
	index, numbers := map[K]int64{}, []int64{}
	for _, key := range keys {
		numbers = append(numbers, numberIn(index, key))
	}
	return numbers, len(index)
}

// outlooks returns those of -1 and of all states.
func outlooks(a Automaton, c classes) []outlook {
	list := make([]outlook, len(c))
	for i := range list {
		state := int64(i) - 1
		for atom := range atomCount(a.Sig) {
			list[i].accept[atom] = acceptsAt(a, state, atom)
			for act := range a.Sig.Actions {
				list[i].next[atom][act] = c.of(nextOf(a, state, atom, act))
			}
		}
	}
	return list
}

// merger merges equivalent states; each class is told by one of its states.
type merger struct {
	automaton Automaton
	classes   classes
}

func (m merger) accepts(state, atom int64) bool {
	return m.automaton.Accept[state][atom]
}

func (m merger) next(state, atom, act int64) (int64, int64) {
	next := m.automaton.Next[state][atom][act]
	if m.classes.isDead(next) {
		return 0, ErrNotFound
	}
	return next, OK
}

// LeastAutomaton returns the automaton with the fewest states.
func LeastAutomaton(a Automaton) (Automaton, int64) {
	if !ValidAutomaton(a) {
		return Automaton{}, ErrInvalid
	}
	m := merger{a, classesOf(a)}
	least, _, code := found(a.Sig, 0, rules[int64, int64]{m.classes.of, m.accepts, m.next})
	return least, code
}

// mixer runs two automata side by side.
type mixer struct {
	left, right Automaton
	mix         int64
}

// both is a state of either automaton, or -1.
type both struct {
	left, right int64
}

func (b both) key() both { return b }

func (m mixer) accepts(s both, atom int64) bool {
	left, right := acceptsAt(m.left, s.left, atom), acceptsAt(m.right, s.right, atom)
	switch m.mix {
	case MixUnion:
		return left || right
	case MixMeet:
		return left && right
	}
	return left && !right
}

func (m mixer) next(s both, atom, act int64) (both, int64) {
	next := both{nextOf(m.left, s.left, atom, act), nextOf(m.right, s.right, atom, act)}
	if next.left < 0 && next.right < 0 {
		return next, ErrNotFound
	}
	return next, OK
}

// MixAutomata returns the automaton of pairs.
func MixAutomata(a, b Automaton, mix int64) (Automaton, int64) {
	if !ValidAutomaton(a) || !ValidAutomaton(b) {
		return Automaton{}, ErrInvalid
	}
	if mix < MixUnion || mix > MixMinus || a.Sig != b.Sig {
		return Automaton{}, ErrRange
	}
	m := mixer{a, b, mix}
	mixed, _, code := found(a.Sig, both{}, rules[both, both]{both.key, m.accepts, m.next})
	return mixed, code
}

// AcceptedCount returns the number of accepted words of a length.
func AcceptedCount(a Automaton, length int64) (int64, int64) {
	if !ValidAutomaton(a) {
		return 0, ErrInvalid
	}
	if !below(length, MaxWord+1) {
		return 0, ErrRange
	}
	return newCounter(a, length).words(0, length), OK
}

// FirstAccepted returns the first accepted word.
func FirstAccepted(a Automaton) (Word, int64) {
	if !ValidAutomaton(a) {
		return Word{}, ErrInvalid
	}
	c := newCounter(a, MaxWord)
	for length := range int64(MaxWord + 1) {
		if c.words(0, length) > 0 {
			return c.firstWord(length), OK
		}
	}
	if classesOf(a).isDead(0) {
		return Word{}, ErrNotFound
	}
	return Word{}, ErrLimit
}

// atomCondition returns the condition of an atom.
func atomCondition(g Sig, atom int64) node {
	var product node = oneNode{}
	for i := range g.Tests {
		var factor node = testNode{i}
		if !holdsAt(i, atom) {
			factor = newNot(factor)
		}
		if i == 0 {
			product = factor
		} else {
			product = newDot(product, factor)
		}
	}
	return product
}

// remover removes the states of an automaton, and keeps the tidy expressions
// of the steps between the others, and of what they accept.
type remover struct {
	steps [][]node
	ends  []node
}

// newRemover returns the remover of an automaton. 8 atoms and 4 actions have
// sums of at most 353 nodes, so that no limit can be exceeded yet.
func newRemover(a Automaton) remover {
	var r remover
	for i := range a.Accept {
		row, end := zeros(len(a.Accept)), node(zeroNode{})
		for atom, accepts := range a.Accept[i] {
			condition := atomCondition(a.Sig, int64(atom))
			if accepts {
				end = newSum(end, condition)
			}
			for act, k := range a.Next[i][atom] {
				if k >= 0 {
					row[k] = newSum(row[k], newDot(condition, actNode{int64(act)}))
				}
			}
		}
		for k := range row {
			row[k] = tidy(row[k])
		}
		r.steps, r.ends = append(r.steps, row), append(r.ends, tidy(end))
	}
	return r
}

func zeros(count int) []node {
	list := make([]node, count)
	for i := range list {
		list[i] = zeroNode{}
	}
	return list
}

// remove removes the last state, and reports whether no limit is exceeded.
func (r remover) remove(last int) bool {
	loop := r.steps[last][last]
	for i := range last {
		to, ok := r.steps[i][last], true
		for k := range last {
			if r.steps[i][k], ok = detour(r.steps[i][k], to, loop, r.steps[last][k]); !ok {
				return false
			}
		}
		if r.ends[i], ok = detour(r.ends[i], to, loop, r.ends[last]); !ok {
			return false
		}
	}
	return true
}

// detour adds to a direct way the one to a removed state, round it any number
// of times, and on from there. All nodes are tidy; it is false if the sum has
// too many nodes before it is made tidy.
func detour(direct, to, loop, on node) (node, bool) {
	if newSum(direct, newDot(to, newDot(newStar(loop), on))).size() > MaxDerived {
		return zeroNode{}, false
	}
	return tidySum(direct, tidyDot(to, tidyDot(tidyStar(loop), on))), true
}

// ExprOf returns an expression of an automaton.
func ExprOf(a Automaton) (Expr, int64) {
	if !ValidAutomaton(a) {
		return Expr{}, ErrInvalid
	}
	r := newRemover(a)
	for last := len(a.Accept) - 1; last > 0; last-- {
		if !r.remove(last) {
			return Expr{}, ErrLimit
		}
	}
	loop, end := r.steps[0][0], r.ends[0]
	if newDot(newStar(loop), end).size() > MaxDerived {
		return Expr{}, ErrLimit
	}
	result := exprOf(tidyDot(tidyStar(loop), end))
	if !ValidExpr(a.Sig, result) {
		return Expr{}, ErrLimit
	}
	return result, OK
}
