package tests

import (
	"slices"
	"strconv"
	"strings"
	"testing"

	"loop.example/g01101/impl"
)

// This file has the definitions of chapter 3, word for word, and makers of
// expressions and lists of pairs at its limits.

// startsOf is the name of the state of a residual that is no set.
const startsOf = "first"

// pairText is the text of a pair whose sides need not be valid.
func pairText(p impl.Pair) string { return textOf(p.Left) + " = " + textOf(p.Right) + "\n" }

func pairsText(pairs []impl.Pair) string {
	out := ""
	for _, p := range pairs {
		out += pairText(p)
	}
	return out
}

func occurs(pairs []impl.Pair, p impl.Pair) bool {
	return slices.ContainsFunc(pairs, func(q impl.Pair) bool {
		return impl.SameExpr(p.Left, q.Left) && impl.SameExpr(p.Right, q.Right)
	})
}

// bisimOf is the list that FindBisim makes, for expressions that are equal or not.
func bisimOf(g impl.Sig, e, f impl.Expr) []impl.Pair {
	pairs := []impl.Pair{{Left: tidied(e), Right: tidied(f)}}
	for i := 0; i < len(pairs); i++ {
		for atom := range int64(1) << g.Tests {
			for act := range g.Actions {
				x, _ := derived(pairs[i].Left, atom, act)
				y, _ := derived(pairs[i].Right, atom, act)
				if p := (impl.Pair{Left: x, Right: y}); !occurs(pairs, p) {
					pairs = append(pairs, p)
				}
			}
		}
	}
	return pairs
}

// isBisim is what CheckBisim has to return for valid arguments.
func isBisim(g impl.Sig, e, f impl.Expr, pairs []impl.Pair) (bool, int) {
	good, code := occurs(pairs, impl.Pair{Left: tidied(e), Right: tidied(f)}), impl.OK
	for _, p := range pairs {
		for atom := range int64(1) << g.Tests {
			good = good && emptyIn(p.Left, atom) == emptyIn(p.Right, atom)
			for act := range g.Actions {
				x, first := derived(p.Left, atom, act)
				y, second := derived(p.Right, atom, act)
				if !first || !second {
					return false, impl.ErrLimit
				}
				good = good && occurs(pairs, impl.Pair{Left: x, Right: y})
			}
		}
	}
	return good, code
}

// differenceOf looks for the first word up to a length that one expression has
// and the other one has not.
func differenceOf(g impl.Sig, e, f impl.Expr, length int) (impl.Word, bool) {
	for n := range length + 1 {
		for _, w := range wordsOfLength(g, n) {
			if holds(e, w) != holds(f, w) {
				return w, true
			}
		}
	}
	return impl.Word{}, false
}

// stepOf is where a state, or -1, leads.
func stepOf(a impl.Automaton, state, atom, act int64) int64 {
	if state < 0 {
		return -1
	}
	return a.Next[state][atom][act]
}

// endsOf are the states of f, with -1, to which the words of e that end with
// an atom lead.
func endsOf(e, f impl.Automaton, last int64) []int64 {
	pairs, ends := [][2]int64{{0, 0}}, []int64{}
	for n := 0; n < len(pairs); n++ {
		i, k := pairs[n][0], pairs[n][1]
		if e.Accept[i][last] {
			ends = append(ends, k)
		}
		for atom := range int64(1) << e.Sig.Tests {
			for act := range e.Sig.Actions {
				pair := [2]int64{e.Next[i][atom][act], stepOf(f, k, atom, act)}
				if pair[0] >= 0 && !slices.Contains(pairs, pair) {
					pairs = append(pairs, pair)
				}
			}
		}
	}
	slices.Sort(ends)
	return slices.Compact(ends)
}

// residualOf is the automaton of the residual, however many states it has.
func residualOf(e, f impl.Automaton) impl.Automaton {
	starts, sets, names := [][]int64{}, [][]int64{nil}, []string{startsOf}
	for atom := range int64(1) << e.Sig.Tests {
		starts = append(starts, endsOf(e, f, atom))
	}
	a := impl.Automaton{Sig: e.Sig}
	for n := 0; n < len(sets); n++ {
		accepts, rows := []bool{}, [][]int64{}
		for atom := range int64(1) << e.Sig.Tests {
			set := sets[n]
			if n == 0 {
				set = starts[atom]
			}
			accepts = append(accepts, !slices.ContainsFunc(set, func(s int64) bool { return s < 0 || !f.Accept[s][atom] }))
			row := []int64{}
			for act := range e.Sig.Actions {
				next := []int64{}
				for _, s := range set {
					next = append(next, stepOf(f, s, atom, act))
				}
				slices.Sort(next)
				next = slices.Compact(next)
				place := slices.Index(names, strings.Join(numbersText(next), ","))
				if place < 0 {
					place, names, sets = len(names), append(names, strings.Join(numbersText(next), ",")), append(sets, next)
				}
				row = append(row, int64(place))
			}
			rows = append(rows, row)
		}
		a.Accept, a.Next = append(a.Accept, accepts), append(a.Next, rows)
	}
	return a
}

func numbersText(numbers []int64) []string {
	out := []string{}
	for _, n := range numbers {
		out = append(out, strconv.FormatInt(n, 10))
	}
	return out
}

// prefixesOf is the automaton of all beginnings of words.
func prefixesOf(a impl.Automaton) impl.Automaton {
	b := impl.Automaton{Sig: a.Sig, Next: a.Next}
	for s := range a.Accept {
		accepts := slices.Clone(a.Accept[s])
		for atom, row := range a.Next[s] {
			for _, next := range row {
				accepts[atom] = accepts[atom] || !acceptSame(a, a, next, -1)
			}
		}
		b.Accept = append(b.Accept, accepts)
	}
	return b
}

// leastExprOf is the expression of the least automaton that accepts the same as
// an automaton, which may have too many states.
func leastExprOf(a impl.Automaton) (impl.Expr, int) {
	if len(a.Accept) > impl.MaxStates {
		return impl.Expr{}, impl.ErrLimit
	}
	return exprOf(leastOf(a))
}

// dead is the text of an expression without words whose automaton goes round
// so many states: pairs of such states are many, and their results small.
func dead(states int) string {
	return "(" + balanced(states, "a0", " ") + "* (t0 ~t0))"
}

// beyondStates are the texts of expressions for which AutomatonOf returns
// ErrLimit, for one test and one action.
var beyondStates = map[string]string{
	"61 states":                       balanced(60, "a0", " "),
	"61 states and no words":          "(" + balanced(60, "a0", " ") + " (t0 ~t0))",
	"a derivative of 801 nodes":       derivedChain(15, map[int]int{7: 1, 15: 1}),
	"a derivative of 801 nodes later": "(a0 " + derivedChain(15, map[int]int{7: 1, 15: 1}) + ")",
}

// function is a function of two expressions and its results as a list, the code
// as the last one.
type function struct {
	name string
	of   func(g impl.Sig, e, f impl.Expr) []any
}

// ofTwo are the functions of two expressions that need their automata.
func ofTwo() []function {
	return []function{
		{"EqualExprs", func(g impl.Sig, e, f impl.Expr) []any { x, c := impl.EqualExprs(g, e, f); return list(x, c) }},
		{"AtMost", func(g impl.Sig, e, f impl.Expr) []any { x, c := impl.AtMost(g, e, f); return list(x, c) }},
		{"FirstDifference", func(g impl.Sig, e, f impl.Expr) []any {
			w, x, c := impl.FirstDifference(g, e, f)
			return list(len(w.Atoms)+len(w.Acts) > 0, x, c)
		}},
		{"FindBisim", func(g impl.Sig, e, f impl.Expr) []any {
			x, c := impl.FindBisim(g, e, f)
			return list(len(x) > 0, c)
		}},
		{"MeetExprs", func(g impl.Sig, e, f impl.Expr) []any { x, c := impl.MeetExprs(g, e, f); return list(x.Kind > 0, c) }},
		{"MinusExprs", func(g impl.Sig, e, f impl.Expr) []any { x, c := impl.MinusExprs(g, e, f); return list(x.Kind > 0, c) }},
		{"ResidualExpr", func(g impl.Sig, e, f impl.Expr) []any { x, c := impl.ResidualExpr(g, e, f); return list(x.Kind > 0, c) }},
	}
}

// ofOne are the functions of one expression that need its automaton.
func ofOne() []function {
	return []function{
		{"IsEmptyExpr", func(g impl.Sig, e, f impl.Expr) []any { x, c := impl.IsEmptyExpr(g, e); return list(x, c) }},
		{"IsConditionLike", func(g impl.Sig, e, f impl.Expr) []any { x, c := impl.IsConditionLike(g, e); return list(x, c) }},
		{"LeastExpr", func(g impl.Sig, e, f impl.Expr) []any { x, c := impl.LeastExpr(g, e); return list(x.Kind > 0, c) }},
		{"PrefixesOf", func(g impl.Sig, e, f impl.Expr) []any { x, c := impl.PrefixesOf(g, e); return list(x.Kind > 0, c) }},
		{"LengthsOf", func(g impl.Sig, e, f impl.Expr) []any {
			x, c := impl.LengthsOf(g, e)
			return list(len(x) > 0, c)
		}},
	}
}

// wantCode looks for a code other than OK, with which all results are zero.
func wantCode(t *testing.T, name string, f function, results []any, code int) {
	t.Helper()
	zeros := slices.Repeat([]any{false}, len(results)-1)
	want(t, f.name+", "+name, results, append(zeros, code))
}

// equal is EqualExprs, whose code has to be OK.
func equal(t *testing.T, g impl.Sig, e, f impl.Expr) bool {
	t.Helper()
	yes, code := impl.EqualExprs(g, e, f)
	if code != impl.OK {
		t.Fatalf("EqualExprs of %s and %s: code %d", short(textOf(e)), short(textOf(f)), code)
	}
	return yes
}
