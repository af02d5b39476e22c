package tests

import (
	"math/rand"
	"slices"
	"strings"
	"testing"

	"loop.example/g01101/impl"
)

// This file has the tables of chapter 2, word for word, without regard to time
// or memory, and makers of automata.

// textOf is the text of an expression that need not be valid.
func textOf(e impl.Expr) string {
	switch e.Kind {
	case impl.EZero:
		return "0"
	case impl.EOne:
		return "1"
	case impl.ETest:
		return "t" + string('0'+rune(e.Num))
	case impl.EAct:
		return "a" + string('0'+rune(e.Num))
	case impl.ENot:
		return "~" + textOf(e.Kids[0])
	case impl.ESum:
		return "(" + textOf(e.Kids[0]) + " + " + textOf(e.Kids[1]) + ")"
	case impl.EDot:
		return "(" + textOf(e.Kids[0]) + " " + textOf(e.Kids[1]) + ")"
	case impl.EStar:
		return textOf(e.Kids[0]) + "*"
	}
	return "none"
}

func textsOf(exprs []impl.Expr) string {
	out := []string{}
	for _, e := range exprs {
		out = append(out, textOf(e))
	}
	return strings.Join(out, ", ")
}

// tidied is the tidy form.
func tidied(e impl.Expr) impl.Expr {
	switch e.Kind {
	case impl.ESum:
		return tidiedSum(append(summandsOf(tidied(e.Kids[0])), summandsOf(tidied(e.Kids[1]))...))
	case impl.EDot:
		return tidiedDot(tidied(e.Kids[0]), tidied(e.Kids[1]))
	case impl.EStar:
		kid := tidied(e.Kids[0])
		if impl.IsCondition(kid) {
			return one
		}
		if kid.Kind == impl.EStar {
			return kid
		}
		return tree(impl.EStar, kid)
	}
	return e
}

func summandsOf(e impl.Expr) []impl.Expr {
	switch e.Kind {
	case impl.EZero:
		return nil
	case impl.ESum:
		return append(summandsOf(e.Kids[0]), summandsOf(e.Kids[1])...)
	}
	return []impl.Expr{e}
}

func tidiedSum(list []impl.Expr) impl.Expr {
	different := []impl.Expr{}
	for _, e := range list {
		if !slices.ContainsFunc(different, func(x impl.Expr) bool { return impl.SameExpr(x, e) }) {
			different = append(different, e)
		}
	}
	slices.SortFunc(different, func(x, y impl.Expr) int { return strings.Compare(textOf(x), textOf(y)) })
	if len(different) == 0 {
		return zero
	}
	sum := different[0]
	for _, e := range different[1:] {
		sum = tree(impl.ESum, sum, e)
	}
	return sum
}

func tidiedDot(x, y impl.Expr) impl.Expr {
	switch {
	case x.Kind == impl.EZero || y.Kind == impl.EZero:
		return zero
	case x.Kind == impl.EOne:
		return y
	case y.Kind == impl.EOne:
		return x
	case x.Kind == impl.EDot:
		return tidied(tree(impl.EDot, x.Kids[0], tree(impl.EDot, x.Kids[1], y)))
	}
	return tree(impl.EDot, x, y)
}

func emptyIn(e impl.Expr, atom int64) bool {
	return holds(e, impl.Word{Atoms: []int64{atom}})
}

// derived is the derivative, and false where a limit is exceeded.
func derived(e impl.Expr, atom, a int64) (impl.Expr, bool) {
	table := zero
	switch e.Kind {
	case impl.EAct:
		if e.Num == a {
			table = one
		}
	case impl.ESum:
		x, first := derived(e.Kids[0], atom, a)
		y, second := derived(e.Kids[1], atom, a)
		if !first || !second {
			return zero, false
		}
		table = tree(impl.ESum, x, y)
	case impl.EDot:
		x, ok := derived(e.Kids[0], atom, a)
		if !ok {
			return zero, false
		}
		table = tree(impl.EDot, x, e.Kids[1])
		if emptyIn(e.Kids[0], atom) {
			y, ok := derived(e.Kids[1], atom, a)
			if !ok {
				return zero, false
			}
			table = tree(impl.ESum, table, y)
		}
	case impl.EStar:
		x, ok := derived(e.Kids[0], atom, a)
		if !ok {
			return zero, false
		}
		table = tree(impl.EDot, x, e)
	}
	if impl.ExprSize(table) > impl.MaxDerived {
		return zero, false
	}
	return tidied(table), true
}

// statesOf are all derivatives and the automaton of an expression.
func statesOf(g impl.Sig, e impl.Expr) ([]impl.Expr, impl.Automaton, bool) {
	list, a := []impl.Expr{tidied(e)}, impl.Automaton{Sig: g}
	for i := 0; i < len(list); i++ {
		accepts, rows := []bool{}, [][]int64{}
		for atom := range int64(1) << g.Tests {
			accepts = append(accepts, emptyIn(list[i], atom))
			row := []int64{}
			for act := range g.Actions {
				x, ok := derived(list[i], atom, act)
				if !ok {
					return nil, impl.Automaton{}, false
				}
				place := slices.IndexFunc(list, func(y impl.Expr) bool { return impl.SameExpr(x, y) })
				if place < 0 && x.Kind != impl.EZero {
					place, list = len(list), append(list, x)
				}
				if x.Kind == impl.EZero {
					place = -1
				}
				row = append(row, int64(place))
			}
			rows = append(rows, row)
		}
		a.Accept, a.Next = append(a.Accept, accepts), append(a.Next, rows)
		if len(list) > impl.MaxStates {
			return nil, impl.Automaton{}, false
		}
	}
	return list, a, true
}

// conditionOf is the condition of an atom.
func conditionOf(g impl.Sig, atom int64) impl.Expr {
	product := one
	for i := range g.Tests {
		factor := test(i)
		if atom>>i&1 == 0 {
			factor = tree(impl.ENot, factor)
		}
		if i == 0 {
			product = factor
		} else {
			product = tree(impl.EDot, product, factor)
		}
	}
	return product
}

// exprByTable is the expression of an automaton before it is made tidy at
// last, and the greatest sizes before they are made tidy: of an S, of an A and
// of this expression.
func exprByTable(a impl.Automaton) (impl.Expr, [3]int64) {
	n := len(a.Accept)
	sizes, s, ends := [3]int64{}, make([][]impl.Expr, n), make([]impl.Expr, n)
	tidiedAt := func(i int, e impl.Expr) impl.Expr {
		sizes[i] = max(sizes[i], impl.ExprSize(e))
		if sizes[i] > 3*impl.MaxDerived {
			return zero
		}
		return tidied(e)
	}
	for i := range n {
		s[i] = slices.Repeat([]impl.Expr{zero}, n)
		ends[i] = zero
		for atom := range a.Accept[i] {
			if a.Accept[i][atom] {
				ends[i] = tree(impl.ESum, ends[i], conditionOf(a.Sig, int64(atom)))
			}
			for action, k := range a.Next[i][atom] {
				if k >= 0 {
					s[i][k] = tree(impl.ESum, s[i][k], tree(impl.EDot, conditionOf(a.Sig, int64(atom)), act(int64(action))))
				}
			}
		}
		for k := range n {
			s[i][k] = tidiedAt(0, s[i][k])
		}
		ends[i] = tidiedAt(1, ends[i])
	}
	for last := n - 1; last > 0; last-- {
		loop := tree(impl.EStar, s[last][last])
		for i := range last {
			for k := range last {
				s[i][k] = tidiedAt(0, tree(impl.ESum, s[i][k], tree(impl.EDot, s[i][last], tree(impl.EDot, loop, s[last][k]))))
			}
			ends[i] = tidiedAt(1, tree(impl.ESum, ends[i], tree(impl.EDot, s[i][last], tree(impl.EDot, loop, ends[last]))))
		}
	}
	result := tree(impl.EDot, tree(impl.EStar, s[0][0]), ends[0])
	sizes[2] = impl.ExprSize(result)
	return result, sizes
}

// exprOf is what ExprOf has to return.
func exprOf(a impl.Automaton) (impl.Expr, int) {
	e, sizes := exprByTable(a)
	if slices.Max(sizes[:]) > impl.MaxDerived {
		return impl.Expr{}, impl.ErrLimit
	}
	if e = tidied(e); !impl.ValidExpr(a.Sig, e) {
		return impl.Expr{}, impl.ErrLimit
	}
	return e, impl.OK
}

// mustAutomaton reads an automaton that has to be valid.
func mustAutomaton(t *testing.T, text string) impl.Automaton {
	t.Helper()
	a, code := impl.ReadAutomaton(text)
	if code != impl.OK {
		t.Fatalf("ReadAutomaton of %s: code %d", short(text), code)
	}
	return a
}

// automatonOf is AutomatonOf of a text, whose code has to be OK.
func automatonOf(t *testing.T, g impl.Sig, text string) impl.Automaton {
	t.Helper()
	a, code := impl.AutomatonOf(g, mustExpr(t, g, text))
	if code != impl.OK {
		t.Fatalf("AutomatonOf of %s: code %d", short(text), code)
	}
	return a
}

// randomAutomaton returns an automaton with so many states, of which many lead
// nowhere.
func randomAutomaton(r *rand.Rand, g impl.Sig, states int) impl.Automaton {
	a := impl.Automaton{Sig: g}
	for range states {
		accepts, rows := []bool{}, [][]int64{}
		for range 1 << g.Tests {
			accepts = append(accepts, r.Intn(4) == 0)
			row := []int64{}
			for range g.Actions {
				row = append(row, max(-1, int64(r.Intn(states+2)-2)))
			}
			rows = append(rows, row)
		}
		a.Accept, a.Next = append(a.Accept, accepts), append(a.Next, rows)
	}
	return a
}

// chain returns an automaton for one action without tests: its states lead one
// to the next one, and the last one to the state back; the last one accepts.
func chain(states int, back int64) impl.Automaton {
	a := impl.Automaton{Sig: sig01}
	for i := range states {
		next := int64(i + 1)
		if i == states-1 {
			next = back
		}
		a.Accept = append(a.Accept, []bool{i == states-1})
		a.Next = append(a.Next, [][]int64{{next}})
	}
	return a
}

// accepted runs a word through an automaton from a state on.
func accepted(a impl.Automaton, state int64, w impl.Word) bool {
	for i, act := range w.Acts {
		if state >= 0 {
			state = a.Next[state][w.Atoms[i]][act]
		}
	}
	return state >= 0 && a.Accept[state][w.Atoms[len(w.Acts)]]
}

// acceptSame reports whether two automata accept the same words from two
// states on: no pair that can be reached together differs.
func acceptSame(a, b impl.Automaton, i, k int64) bool {
	list := [][2]int64{{i, k}}
	for n := 0; n < len(list); n++ {
		i, k := list[n][0], list[n][1]
		for atom := range int64(1) << a.Sig.Tests {
			w := impl.Word{Atoms: []int64{atom}}
			if accepted(a, i, w) != accepted(b, k, w) {
				return false
			}
			for act := range a.Sig.Actions {
				pair := [2]int64{-1, -1}
				if i >= 0 {
					pair[0] = a.Next[i][atom][act]
				}
				if k >= 0 {
					pair[1] = b.Next[k][atom][act]
				}
				if !slices.Contains(list, pair) {
					list = append(list, pair)
				}
			}
		}
	}
	return true
}
