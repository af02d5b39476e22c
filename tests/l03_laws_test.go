package tests

import (
	"math/rand"
	"testing"

	"loop.example/g01101/impl"
)

// This file tests the laws of a Kleene algebra with tests, promise 6, and what
// promises 3 and 5 say of equal expressions.

// laws are equations whose actions stand for any expressions, and whose tests
// for any conditions.
var laws = [][2]string{
	{"(a0 + (a1 + a2))", "((a0 + a1) + a2)"}, {"(a0 + a1)", "(a1 + a0)"}, {"(a0 + 0)", "a0"}, {"(a0 + a0)", "a0"},
	{"(a0 (a1 a2))", "((a0 a1) a2)"}, {"(1 a0)", "a0"}, {"(a0 1)", "a0"}, {"(0 a0)", "0"}, {"(a0 0)", "0"},
	{"(a0 (a1 + a2))", "((a0 a1) + (a0 a2))"}, {"((a0 + a1) a2)", "((a0 a2) + (a1 a2))"}, {"(1 + (a0 a0*))", "a0*"}, {"(1 + (a0* a0))", "a0*"},
	{"(a0* a0*)", "a0*"}, {"a0**", "a0*"}, {"((a0 a1)* a0)", "(a0 (a1 a0)*)"}, {"(a0 + a1)*", "(a0* (a1 a0*)*)"}, {"0*", "1"}, {"1*", "1"},
	{"t0*", "1"}, {"(t0 t0)", "t0"}, {"(t0 t1)", "(t1 t0)"}, {"(t0 + ~t0)", "1"}, {"(t0 ~t0)", "0"}, {"~~t0", "t0"}, {"(t0 + 1)", "1"},
	{"~(t0 + t1)", "(~t0 ~t1)"}, {"~(t0 t1)", "(~t0 + ~t1)"}, {"~0", "1"}, {"~1", "0"}, {"((t0 + t1) (t0 + t2))", "(t0 + (t1 t2))"},
	{"((t0 a0)* ~t0)", "(~t0 + ((t0 a0) ((t0 a0)* ~t0)))"}, {"(a0 + (1 + a0)*)", "a0*"}, {"(t0 (a0 + a1))", "((t0 a0) + (t0 a1))"},
}

// instance puts expressions in place of tests and actions.
func instance(e impl.Expr, tests, acts []impl.Expr) impl.Expr {
	switch e.Kind {
	case impl.ETest:
		return tests[e.Num]
	case impl.EAct:
		return acts[e.Num]
	}
	x := impl.Expr{Kind: e.Kind}
	for _, kid := range e.Kids {
		x.Kids = append(x.Kids, instance(kid, tests, acts))
	}
	return x
}

// randomParts returns what instances of laws are made of.
func randomParts(r *rand.Rand, g impl.Sig, depth int) ([]impl.Expr, []impl.Expr) {
	tests, acts := []impl.Expr{}, []impl.Expr{}
	for range 3 {
		tests, acts = append(tests, randomCondition(r, g, 2)), append(acts, randomExpr(r, g, depth))
	}
	return tests, acts
}

func TestLaws(t *testing.T) {
	r := rand.New(rand.NewSource(46))
	limits, checked := 0, 0
	for i := range 900 {
		g := []impl.Sig{sig11, sig12, {Tests: 2, Actions: 1}, {Tests: 0, Actions: 2}, {Tests: 2}, sig00}[i%6]
		law := laws[i%len(laws)]
		tests, acts := randomParts(r, g, 1+i%3)
		e, f := instance(mustExpr(t, sig34, law[0]), tests, acts), instance(mustExpr(t, sig34, law[1]), tests, acts)
		yes, code := impl.EqualExprs(g, e, f)
		if code != impl.OK {
			limits++
			continue
		}
		checked++
		want(t, law[0]+" = "+law[1]+" of "+textOf(e), yes, true)
		found, code := impl.FindBisim(g, e, f)
		if code == impl.OK {
			good, second := impl.CheckBisim(g, e, f, found)
			want(t, "certificate of "+textOf(e), list(good, second), list(true, impl.OK))
		}
	}
	if limits > 60 || checked < 800 {
		t.Errorf("%d limits, %d instances", limits, checked)
	}
}

// TestInduction: the laws of the star that have a premise.
func TestInduction(t *testing.T) {
	r := rand.New(rand.NewSource(47))
	left, right := 0, 0
	for i := range 1200 {
		g := []impl.Sig{sig11, {Tests: 0, Actions: 2}, {Tests: 1}, sig12}[i%4]
		p, q, x := randomExpr(r, g, 2), randomExpr(r, g, 2), randomExpr(r, g, 2+i%2)
		if i%3 == 0 {
			x = tree(impl.ESum, x, tree(impl.EDot, tree(impl.EStar, tree(impl.ESum, p, x)), tree(impl.ESum, q, x)))
		}
		for n, pair := range [][2]impl.Expr{
			{tree(impl.ESum, q, tree(impl.EDot, p, x)), tree(impl.EDot, tree(impl.EStar, p), q)},
			{tree(impl.ESum, q, tree(impl.EDot, x, p)), tree(impl.EDot, q, tree(impl.EStar, p))},
		} {
			premise, first := impl.AtMost(g, pair[0], x)
			result, second := impl.AtMost(g, pair[1], x)
			if first != impl.OK || second != impl.OK || !premise {
				continue
			}
			want(t, textOf(pair[1])+" at most "+textOf(x), result, true)
			left += 1 - n
			right += n
		}
	}
	if left < 200 || right < 100 {
		t.Errorf("only %d and %d premises hold", left, right)
	}
}

// TestOrder: equality and order are what they are called.
func TestOrder(t *testing.T) {
	r := rand.New(rand.NewSource(48))
	chains, sums := 0, 0
	for i := range 500 {
		g := []impl.Sig{sig11, {Tests: 0, Actions: 2}, {Tests: 2}, sig12}[i%4]
		e, f, x := randomExpr(r, g, 2), randomExpr(r, g, 2), randomExpr(r, g, 3)
		same, code := impl.EqualExprs(g, x, x)
		if code != impl.OK {
			continue
		}
		all, _ := impl.AllWords(g)
		most, _ := impl.AtMost(g, x, all)
		least, _ := impl.AtMost(g, zero, x)
		want(t, "itself, all and nothing, "+textOf(x), list(same, most, least), list(true, true, true))
		below, _ := impl.AtMost(g, e, f)
		sum, _ := impl.EqualExprs(g, tree(impl.ESum, e, f), f)
		want(t, "at most just if the sum is the greater one, "+textOf(e)+" and "+textOf(f), below, sum)
		sums += one01(sum)
		above, first := impl.AtMost(g, f, x)
		across, second := impl.AtMost(g, e, x)
		if below && above && first == impl.OK && second == impl.OK {
			chains++
			want(t, "at most by way of "+textOf(f), across, true)
		}
		for _, context := range []func(e impl.Expr) impl.Expr{
			func(e impl.Expr) impl.Expr { return tree(impl.ESum, e, x) }, func(e impl.Expr) impl.Expr { return tree(impl.EDot, x, e) },
			func(e impl.Expr) impl.Expr { return tree(impl.EDot, e, x) }, func(e impl.Expr) impl.Expr { return tree(impl.EStar, e) },
		} {
			greater, code := impl.AtMost(g, context(e), context(f))
			if below && code == impl.OK {
				want(t, textOf(context(e))+" at most "+textOf(context(f)), greater, true)
			}
		}
	}
	if chains < 20 || sums < 60 {
		t.Errorf("only %d chains and %d sums", chains, sums)
	}
}

// TestEqualStayEqualDecided: equal expressions stay equal when actions are
// replaced and words are reversed, which is decided now: promise 3.
func TestEqualStayEqualDecided(t *testing.T) {
	r := rand.New(rand.NewSource(49))
	checked, different := 0, 0
	pairs := append(append([][2]string{}, equalTexts...), [2]string{"(a0 a1)", "(a1 a0)"}, [2]string{"a0", "(a0 t0)"}, [2]string{"(a0 + a1)", "a0*"})
	for i := range 400 {
		pair := pairs[i%len(pairs)]
		e, f := mustExpr(t, sig12, pair[0]), mustExpr(t, sig12, pair[1])
		if i%2 == 1 {
			e = randomExpr(r, sig12, 3)
			f = equalTo(r, sig12, e)
		}
		by := []impl.Expr{randomExpr(r, sig12, 1+i%3), randomExpr(r, sig12, 2)}
		x, first := impl.ReplaceActions(sig12, e, by)
		y, second := impl.ReplaceActions(sig12, f, by)
		same, third := impl.EqualExprs(sig12, e, f)
		if first != impl.OK || second != impl.OK || third != impl.OK {
			continue
		}
		back, _ := impl.ReverseExpr(sig12, e)
		forth, _ := impl.ReverseExpr(sig12, f)
		reversed, fourth := impl.EqualExprs(sig12, back, forth)
		replaced, fifth := impl.EqualExprs(sig12, x, y)
		if fourth == impl.OK {
			want(t, "reversed "+textOf(e)+" and "+textOf(f), reversed, same)
			different += one01(!reversed)
		}
		if fifth == impl.OK && same {
			checked++
			want(t, "replaced in "+textOf(e)+" and "+textOf(f), replaced, true)
		}
	}
	if checked < 250 || different < 10 {
		t.Errorf("only %d checked, %d different", checked, different)
	}
}

// TestReversedDifference: the reversed words make the difference of reversed
// expressions, and words are fused as expressions are.
func TestReversedDifference(t *testing.T) {
	r := rand.New(rand.NewSource(50))
	checked := 0
	for range 300 {
		e, f, x := randomExpr(r, sig12, 3), randomExpr(r, sig12, 3), randomExpr(r, sig12, 2)
		w, has, code := impl.FirstDifference(sig12, e, f)
		if code != impl.OK {
			continue
		}
		back, _ := impl.ReverseExpr(sig12, e)
		forth, _ := impl.ReverseExpr(sig12, f)
		v, _ := impl.ReverseWord(sig12, w)
		first, _ := impl.Matches(sig12, back, v)
		second, _ := impl.Matches(sig12, forth, v)
		want(t, "reversed difference of "+textOf(e)+" and "+textOf(f), list(first, second), list(has, !has))
		other, _, code := impl.FirstDifference(sig12, back, forth)
		if code == impl.OK {
			checked++
			want(t, "as long", len(other.Acts), len(w.Acts))
		}
		product, _ := impl.ReverseExpr(sig12, tree(impl.EDot, e, x))
		behind, _ := impl.ReverseExpr(sig12, x)
		if same, code := impl.EqualExprs(sig12, product, tree(impl.EDot, behind, back)); code == impl.OK {
			want(t, "reversed product of "+textOf(e)+" and "+textOf(x), same, true)
		}
	}
	if checked < 150 {
		t.Errorf("only %d checked", checked)
	}
}

// TestLeastOfEqual: least automata are equal just for equal expressions, and
// the expression of an automaton has its words: promise 5.
func TestLeastOfEqual(t *testing.T) {
	r := rand.New(rand.NewSource(51))
	equals, others, round := 0, 0, 0
	for i := range 500 {
		g := []impl.Sig{sig11, sig12, {Tests: 2, Actions: 1}, {Tests: 0, Actions: 2}, {Tests: 2}}[i%5]
		e := randomExpr(r, g, 2+i%3)
		f := equalTo(r, g, e)
		if i%2 == 0 {
			f = randomExpr(r, g, 2)
		}
		same, code := impl.EqualExprs(g, e, f)
		if code != impl.OK {
			continue
		}
		a, _ := impl.AutomatonOf(g, e)
		b, _ := impl.AutomatonOf(g, f)
		x, _ := impl.LeastAutomaton(a)
		y, _ := impl.LeastAutomaton(b)
		want(t, textOf(e)+" and "+textOf(f), impl.SameAutomaton(x, y), same)
		equals += one01(same)
		others += one01(!same)
		for _, automaton := range []impl.Automaton{a, x} {
			made, code := impl.ExprOf(automaton)
			if code != impl.OK {
				continue
			}
			if yes, code := impl.EqualExprs(g, made, e); code == impl.OK {
				round++
				want(t, "expression of the automaton of "+textOf(e), yes, true)
			}
		}
		tidy, _ := impl.TidyExpr(g, e)
		yes, code := impl.EqualExprs(g, tidy, e)
		want(t, "tidy "+textOf(e), list(yes, code), list(true, impl.OK))
	}
	if equals < 150 || others < 150 || round < 400 {
		t.Errorf("%d equal, %d others and %d rounds are too few", equals, others, round)
	}
}

// TestMixedOfExpressions: mixed automata tell the same as the order does.
func TestMixedOfExpressions(t *testing.T) {
	r := rand.New(rand.NewSource(52))
	checked := 0
	for i := range 300 {
		g := []impl.Sig{sig11, sig12, {Tests: 2}}[i%3]
		e, f := randomExpr(r, g, 3), randomExpr(r, g, 3)
		if i%2 == 0 {
			f = tree(impl.ESum, e, f)
		}
		a, first := impl.AutomatonOf(g, e)
		b, second := impl.AutomatonOf(g, f)
		minus, third := impl.MixAutomata(a, b, impl.MixMinus)
		if first != impl.OK || second != impl.OK || third != impl.OK {
			continue
		}
		checked++
		below, _ := impl.AtMost(g, e, f)
		_, code := impl.FirstAccepted(minus)
		want(t, "nothing is left of "+textOf(e)+" without "+textOf(f), code == impl.ErrNotFound, below)
	}
	if checked < 200 {
		t.Errorf("only %d checked", checked)
	}
}
