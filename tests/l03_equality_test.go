package tests

import (
	"math/rand"
	"slices"
	"strings"
	"testing"

	"loop.example/g01101/impl"
)

// This file tests which expressions are equal, at most others, or of a kind,
// and the first word that makes a difference: promise 6.

func TestDecisionConstants(t *testing.T) {
	want(t, "constants", list(impl.MaxPairs), "[400]")
}

// differences are pairs of expressions that are not equal, with the first word
// that makes the difference and whether the first one has it.
var differences = []struct {
	g          impl.Sig
	e, f, word string
	has        bool
}{
	{sig00, "1", "0", "0", true}, {sig00, "~1", "~0", "0", false}, {impl.Sig{Tests: 2}, "t1", "t0", "1", false},
	{impl.Sig{Tests: 2}, "t1", "(t0 t1)", "2", true}, {impl.Sig{Tests: 3}, "1", "~(t0 (t1 t2))", "7", true},
	{sig11, "a0", "0", "0 a0 0", true}, {sig11, "a0", "(a0 t0)", "0 a0 0", true}, {sig11, "a0", "(t0 a0)", "0 a0 0", true},
	{sig11, "a0", "(~t0 a0)", "1 a0 0", true}, {sig11, "(a0 ~t0)", "a0", "0 a0 1", false}, {sig11, "a0*", "(a0 a0*)", "0", true},
	{sig11, "a0*", "(1 + (a0 (t0 a0*)))", "0 a0 0", true}, {sig11, "(t0 a0)*", "(1 + (t0 a0))", "1 a0 1 a0 0", true},
	{sig12, "a0", "a1", "0 a0 0", true}, {sig12, "a1", "a0", "0 a0 0", false}, {sig12, "(a0 + a1)*", "a0*", "0 a1 0", true},
	{sig12, "(a0 a1)", "(a1 a0)", "0 a0 0 a1 0", true}, {sig12, "(a1 + (a0 a0))", "(a1 t0)", "0 a1 0", true},
	{sig12, "(a0* a1*)", "(a0 + a1)*", "0 a1 0 a0 0", false}, {sig12, "((a0 a0) + (a1 t0))", "(a0 a0)", "0 a1 1", true},
	{sig12, "((t0 (a1 a1)) + (~t0 (a0 (t0 a0))))", "0", "0 a0 1 a0 0", true},
	{sig12, "((t0 (a0 a0)) + (~t0 (a1 (t0 a1))))", "0", "0 a1 1 a1 0", true},
	{sig12, "((a0 (t0 a1)) + (a1 (~t0 a0)))", "0", "0 a0 1 a1 0", true},
	{sig12, "((a0 + a1) (t0 a0))", "((a0 + a1) (a1 + (t0 a0)))", "0 a0 0 a1 0", false},
	{sig34, "(((a0 + a1) + a2) + a3)", "((a0 + a1) + (a2 + ((t0 + (t1 + t2)) a3)))", "0 a3 0", true},
	{sig01, "a0*", balanced(9, "(1 + a0)", " "), "0" + strings.Repeat(" a0 0", 10), true},
	{sig01, "0", balanced(10, "a0", " "), "0" + strings.Repeat(" a0 0", 10), false},
}

func TestFirstDifference(t *testing.T) {
	for _, r := range differences {
		e, f := mustExpr(t, r.g, r.e), mustExpr(t, r.g, r.f)
		w, has, code := impl.FirstDifference(r.g, e, f)
		want(t, "difference of "+r.e+" and "+r.f, list(impl.WordText(r.g, w), has, code), list(r.word, r.has, impl.OK))
		w, has, code = impl.FirstDifference(r.g, f, e)
		want(t, "difference of "+r.f+" and "+r.e, list(impl.WordText(r.g, w), has, code), list(r.word, !r.has, impl.OK))
		want(t, r.e+" and "+r.f, list(equal(t, r.g, e, f), equal(t, r.g, f, e)), list(false, false))
	}
	for _, pair := range equalTexts {
		e, f := mustExpr(t, sig12, pair[0]), mustExpr(t, sig12, pair[1])
		w, has, code := impl.FirstDifference(sig12, e, f)
		want(t, pair[0]+" = "+pair[1], list(w, has, code), list(impl.Word{}, false, impl.ErrNotFound))
		want(t, pair[0]+" = "+pair[1], list(equal(t, sig12, e, f), equal(t, sig12, f, e)), list(true, true))
	}
}

// TestLongDifferences: words of MaxWord actions are told, longer ones are not.
func TestLongDifferences(t *testing.T) {
	for _, r := range []struct{ e, f string }{
		{balanced(11, "a0", " "), "0"}, {balanced(59, "a0", " "), "0"}, {balanced(12, "a0", " ") + "*", "1"},
		{"a0*", balanced(10, "(1 + a0)", " ")}, {"(a0 + a0)*", "(" + balanced(11, "(1 + a0)", " ") + " (a0 ~0)*)"},
		{balanced(11, "a0", " ") + "*", balanced(13, "a0", " ") + "*"}, {balanced(30, "a0", " ") + "*", balanced(58, "a0", " ") + "*"},
	} {
		e, f := mustExpr(t, sig01, r.e), mustExpr(t, sig01, r.f)
		same := equal(t, sig01, e, f)
		for _, pair := range [][2]impl.Expr{{e, f}, {f, e}} {
			w, has, code := impl.FirstDifference(sig01, pair[0], pair[1])
			if same {
				want(t, "equal "+r.e, list(w, has, code), list(impl.Word{}, false, impl.ErrNotFound))
			} else {
				want(t, "too long "+r.e, list(w, has, code), list(impl.Word{}, false, impl.ErrLimit))
			}
			_, code = impl.FindBisim(sig01, pair[0], pair[1])
			want(t, "not found", code == impl.ErrNotFound, !same)
		}
	}
	e, f := mustExpr(t, sig01, balanced(30, "a0", " ")+"*"), mustExpr(t, sig01, balanced(58, "a0", " ")+"*")
	first, _ := impl.AtMost(sig01, e, f)
	second, _ := impl.AtMost(sig01, mustExpr(t, sig01, balanced(58, "a0", " ")+"*"), mustExpr(t, sig01, balanced(29, "a0", " ")+"*"))
	want(t, "at most, differences far away", list(equal(t, sig01, e, f), first, second), list(false, false, true))
	late := "((a0 " + balanced(30, "a0", " ") + "*) + (a0 " + balanced(15, "a0", " ") + "*))"
	early := "(a0 " + balanced(15, "a0", " ") + "*)"
	want(t, "equal after long loops", equal(t, sig01, mustExpr(t, sig01, late), mustExpr(t, sig01, early)), true)
}

func TestAtMost(t *testing.T) {
	rows := []struct {
		e, f string
		yes  bool
	}{
		{"0", "0", true}, {"0", "a0", true}, {"a0", "0", false}, {"1", "a0*", true}, {"a0*", "1", false}, {"t0", "1", true}, {"1", "t0", false},
		{"t0", "~t0", false}, {"(t0 a0)", "a0", true}, {"a0", "(t0 a0)", false}, {"(a0 t0)", "(t0 a0)", false}, {"(t0 ~t0)", "0", true},
		{"a0", "(a0 + a1)", true}, {"(a0 + a1)", "a0", false}, {"(a0 a1)*", "(a0 + a1)*", true}, {"(a0 + a1)*", "(a0 a1)*", false},
		{"(a0 (t0 ~t0))", "a1", true}, {"((a0 a0) + a1)", "(a1 + a0*)", true}, {"(a0 + (a1 a1))", "(a0 + a1)", false}, {"a0*", "a0**", true},
	}
	for _, r := range rows {
		got, code := impl.AtMost(sig12, mustExpr(t, sig12, r.e), mustExpr(t, sig12, r.f))
		want(t, r.e+" at most "+r.f, list(got, code), list(r.yes, impl.OK))
	}
	for _, r := range differences {
		e, f := mustExpr(t, r.g, r.e), mustExpr(t, r.g, r.f)
		first, _ := impl.AtMost(r.g, e, f)
		second, _ := impl.AtMost(r.g, f, e)
		want(t, "what has a word of its own is not at most "+r.e+" "+r.f, list(first && r.has, second && !r.has), list(false, false))
	}
}

// TestDecisionsByWords: equality, order and differences of random expressions,
// compared with all words up to a length; and the laws between them.
func TestDecisionsByWords(t *testing.T) {
	r := rand.New(rand.NewSource(40))
	equals, lengths, most := 0, [4]int{}, 0
	for i := range 900 {
		g := []impl.Sig{sig11, sig12, {Tests: 2, Actions: 1}, {Tests: 0, Actions: 2}, {Tests: 2}, sig00}[i%6]
		e, f := randomExpr(r, g, 2+i%3), randomExpr(r, g, 2+i%3)
		if i%3 == 0 {
			f = tree(impl.ESum, e, tree(impl.EDot, f, randomExpr(r, g, 2)))
		}
		yes, code := impl.EqualExprs(g, e, f)
		if code == impl.ErrLimit {
			continue
		}
		w, has, second := impl.FirstDifference(g, e, f)
		left, third := impl.AtMost(g, e, f)
		right, fourth := impl.AtMost(g, f, e)
		want(t, "codes", list(code, third, fourth), list(0, 0, 0))
		want(t, "equal just if both are at most the other", yes, left && right)
		expected, differ := differenceOf(g, e, f, 3)
		name := textOf(e) + " and " + textOf(f)
		switch {
		case differ:
			want(t, name, list(impl.WordText(g, w), has, second, yes), list(impl.WordText(g, expected), holds(e, expected), impl.OK, false))
			want(t, "at most, "+name, list(left && has, right && !has), list(false, false))
			lengths[len(w.Acts)]++
		case yes:
			equals++
			want(t, name, list(w, has, second), list(impl.Word{}, false, impl.ErrNotFound))
		case second == impl.OK:
			want(t, name, list(len(w.Acts) > 3, holds(e, w), holds(f, w)), list(true, has, !has))
		default:
			want(t, name, list(w, has, second), list(impl.Word{}, false, impl.ErrLimit))
		}
		if left && !right {
			most++
		}
	}
	if equals < 40 || most < 100 || slices.Min(lengths[:3]) < 10 {
		t.Errorf("%d equal, %d at most and %v differences are too few", equals, most, lengths)
	}
}

func TestKinds(t *testing.T) {
	rows := []struct {
		g           impl.Sig
		expr        string
		empty, like bool
		lengths     string
	}{
		{sig00, "0", true, true, "[]"}, {sig00, "1", false, true, "[0]"}, {sig00, "0*", false, true, "[0]"}, {sig00, "~1", true, true, "[]"},
		{sig12, "t0", false, true, "[0]"}, {sig12, "(t0 ~t0)", true, true, "[]"}, {sig12, "(t0 + a0)", false, false, "[0 1]"},
		{sig12, "a0", false, false, "[1]"}, {sig12, "(a0 0)", true, true, "[]"}, {sig12, "(a0 (t0 ~t0))", true, true, "[]"},
		{sig12, "(t0 + (a0 0))", false, true, "[0]"}, {sig12, "(t0 + (a0 (t0 ~t0)))", false, true, "[0]"}, {sig12, "(t0 (~t0 a0))", true, true, "[]"},
		{sig12, "(a0 (t0 (~t0 a1)))*", false, true, "[0]"}, {sig12, "(a0* (t0 ~t0))", true, true, "[]"}, {sig12, "(a0* t0)", false, false, "[0 1 2 3 4 5 6 7 8 9 10]"},
		{sig12, "(t0 a0)", false, false, "[1]"}, {sig12, "(a0 t0)", false, false, "[1]"}, {sig12, "(a0 a1)*", false, false, "[0 2 4 6 8 10]"},
		{sig12, "(a0 (a0 a1))*", false, false, "[0 3 6 9]"}, {sig12, "((a0 (t0 a0)) + (a1 (a1 a1)))", false, false, "[2 3]"},
		{sig01, balanced(10, "a0", " "), false, false, "[10]"}, {sig01, balanced(11, "a0", " "), false, false, "[]"},
		{sig01, balanced(5, "a0", " ") + "*", false, false, "[0 5 10]"}, {sig01, "(a0 " + balanced(5, "a0", " ") + "*)", false, false, "[1 6]"},
		{sig01, balanced(11, "a0", " ") + "*", false, false, "[0]"}, {sig01, balanced(59, "a0", " "), false, false, "[]"}, {sig11, dead(60), true, true, "[]"},
	}
	for _, r := range rows {
		e := mustExpr(t, r.g, r.expr)
		empty, first := impl.IsEmptyExpr(r.g, e)
		like, second := impl.IsConditionLike(r.g, e)
		lengths, third := impl.LengthsOf(r.g, e)
		want(t, "kinds of "+r.expr, list(empty, first, like, second, third), list(r.empty, 0, r.like, 0, 0))
		want(t, "lengths of "+r.expr, lengths, r.lengths)
	}
	r := rand.New(rand.NewSource(41))
	kinds := [3]int{}
	for i := range 500 {
		g := []impl.Sig{sig11, sig12, {Tests: 2, Actions: 2}, {Tests: 0, Actions: 2}, {Tests: 2}}[i%5]
		e := randomExpr(r, g, 2+i%3)
		empty, code := impl.IsEmptyExpr(g, e)
		if code == impl.ErrLimit {
			continue
		}
		like, second := impl.IsConditionLike(g, e)
		lengths, third := impl.LengthsOf(g, e)
		expected := []int64{}
		for length := range int64(11) {
			if count, _ := impl.CountWords(g, e, length); count > 0 {
				expected = append(expected, length)
			}
		}
		want(t, "lengths of "+textOf(e), list(lengths, second, third), list(expected, 0, 0))
		no, _ := impl.EqualExprs(g, e, zero)
		want(t, "empty "+textOf(e), list(empty, !empty || like), list(no, true))
		if len(expected) > 0 { // no automaton of these expressions is so large that all words are longer
			want(t, "condition-like "+textOf(e), list(empty, like), list(false, slices.Max(expected) == 0))
		}
		kinds[0] += one01(empty)
		kinds[1] += one01(like && !empty)
		kinds[2] += one01(!like)
	}
	if slices.Min(kinds[:]) < 40 {
		t.Errorf("%v kinds are too few", kinds)
	}
}

func one01(yes bool) int {
	if yes {
		return 1
	}
	return 0
}

func TestAllWords(t *testing.T) {
	for actions, text := range []string{"1", "a0*", "(a0 + a1)*", "((a0 + a1) + a2)*", "(((a0 + a1) + a2) + a3)*"} {
		for tests := range int64(4) {
			g := impl.Sig{Tests: tests, Actions: int64(actions)}
			e, code := impl.AllWords(g)
			want(t, "all words", list(impl.ExprText(g, e), code), list(text, impl.OK))
			for length := range int64(3) {
				count, code := impl.CountWords(g, e, length)
				want(t, "count", list(count, code), list(len(wordsOfLength(g, int(length))), impl.OK))
			}
		}
	}
	for _, g := range badSigs {
		e, code := impl.AllWords(g)
		want(t, "bad signature", list(e, code), list(impl.Expr{}, impl.ErrInvalid))
	}
}

// TestDecisionErrors: which error comes first, for all functions that need the
// automata of their expressions, also where the answer is plain without them.
func TestDecisionErrors(t *testing.T) {
	g := impl.Sig{Tests: 2, Actions: 2}
	for name, bad := range badExprs() {
		for _, f := range ofTwo() {
			wantCode(t, name, f, f.of(g, bad, one), impl.ErrInvalid)
			wantCode(t, name, f, f.of(g, one, bad), impl.ErrInvalid)
			wantCode(t, name, f, f.of(g, bad, bad), impl.ErrInvalid)
		}
		for _, f := range ofOne() {
			wantCode(t, name, f, f.of(g, bad, one), impl.ErrInvalid)
		}
	}
	for _, bad := range badSigs {
		for _, f := range append(ofOne(), ofTwo()...) {
			wantCode(t, "bad signature", f, f.of(bad, one, one), impl.ErrInvalid)
		}
	}
	deep, large := nested(impl.ENot, impl.MaxDepth, test(0)), mustExpr(t, sig11, balanced(100, "a0", " "))
	large = tree(impl.ESum, large, one)
	for name, text := range beyondStates {
		e := mustExpr(t, sig11, text)
		for _, f := range ofTwo() {
			for _, pair := range [][2]impl.Expr{{e, e}, {e, zero}, {zero, e}, {e, one}, {one, e}} {
				wantCode(t, name, f, f.of(sig11, pair[0], pair[1]), impl.ErrLimit)
			}
			for _, bad := range []impl.Expr{deep, large, {}, act(1)} {
				wantCode(t, "invalid first, "+name, f, f.of(sig11, e, bad), impl.ErrInvalid)
				wantCode(t, "invalid first, "+name, f, f.of(sig11, bad, e), impl.ErrInvalid)
			}
		}
		for _, f := range ofOne() {
			wantCode(t, name, f, f.of(sig11, e, one), impl.ErrLimit)
		}
	}
	for _, text := range []string{balanced(59, "a0", " "), derivedChain(15, map[int]int{6: 1, 15: 1})} { // limits reached exactly
		e := mustExpr(t, sig01, text)
		first, code := impl.IsEmptyExpr(sig01, e)
		second, other := impl.AtMost(sig01, e, e)
		want(t, "60 states or 800 nodes", list(equal(t, sig01, e, e), first, code, second, other), list(true, false, 0, true, 0))
	}
}
