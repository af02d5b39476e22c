package tests

import (
	"math"
	"math/rand"
	"strings"
	"testing"

	"loop.example/g01101/impl"
)

// This file tests the first half of chapter 2, up to the automata of
// expressions: promise 4.

func TestTidyExpr(t *testing.T) {
	rows := map[string]string{
		"0": "0", "1": "1", "t0": "t0", "a1": "a1", "~(0 + (1 t0))": "~(0 + (1 t0))", "(0 + 0)": "0",
		"(a0 + 0)": "a0", "(0 + a0)": "a0", "(a1 + a0)": "(a0 + a1)", "(a0 + a0)": "a0", "(t0 + a0)": "(a0 + t0)",
		"(1 + (a1 + (a0 + a1)))": "((1 + a0) + a1)", "((a0 a1) + (1 + 0))": "((a0 a1) + 1)", "(a0* + a0)": "(a0 + a0*)",
		"(a0 0)": "0", "(0 a0)": "0", "(1 a0)": "a0", "(a0 1)": "a0", "((a0 a1) a2)": "(a0 (a1 a2))",
		"(((a0 a1) (a2 a3)) a0)": "(a0 (a1 (a2 (a3 a0))))", "((a0 + 0) (1 (a1 1)))": "(a0 a1)", "((a0 (0 + 0)) + a1)": "a1",
		"t0*": "1", "~t0*": "1", "(t0 a0)*": "(t0 a0)*", "a0**": "a0*", "a0***": "a0*", "(0 a0)*": "1", "(a0* 1)*": "a0*",
		"((a1 + a0)* + (a0 + a1)*)": "(a0 + a1)*", "(~t1 + ~t0)": "(~t0 + ~t1)",
	}
	for text, tidied := range rows {
		e, code := impl.TidyExpr(sig34, mustExpr(t, sig34, text))
		want(t, "tidy "+text, list(textOf(e), code), list(tidied, impl.OK))
	}
	r := rand.New(rand.NewSource(10))
	for i := range 900 {
		e := randomExpr(r, sig12, 2+i%5)
		once, first := impl.TidyExpr(sig12, e)
		if first == impl.ErrInvalid && !impl.ValidExpr(sig12, e) {
			continue
		}
		want(t, "by the table, "+textOf(e), list(textOf(once), first), list(textOf(tidied(e)), impl.OK))
		twice, second := impl.TidyExpr(sig12, once)
		want(t, "tidy again", list(textOf(twice), second), list(textOf(once), first))
		w := randomWord(r, sig12, r.Intn(4))
		want(t, "words of "+textOf(e), holds(once, w), holds(e, w))
	}
	for name, e := range badExprs() {
		got, code := impl.TidyExpr(impl.Sig{Tests: 2, Actions: 2}, e)
		want(t, name, list(got, code), list(impl.Expr{}, impl.ErrInvalid))
	}
}

func TestDerive(t *testing.T) {
	rows := []struct {
		expr      string
		atom, act int64
		derived   string
	}{
		{"0", 0, 0, "0"}, {"1", 0, 0, "0"}, {"t0", 1, 0, "0"}, {"~t0", 0, 0, "0"}, {"a0", 0, 0, "1"}, {"a0", 0, 1, "0"},
		{"(a0 + (a0 a1))", 0, 0, "(1 + a1)"}, {"(t0 a0)", 1, 0, "1"}, {"(t0 a0)", 0, 0, "0"}, {"((t0 + a0) (a0 a1))", 0, 0, "(a0 a1)"},
		{"((t0 + a0) (a0 a1))", 1, 0, "((a0 a1) + a1)"}, {"a0*", 0, 0, "a0*"}, {"(a0 (1 a1))*", 0, 0, "(a1 (a0 a1)*)"},
		{"(a0 (a1 + (0 + t0)))", 0, 0, "(a1 + t0)"}, {"(~t0 (a0* a1))", 0, 1, "1"}, {"(~t0 (a0* a1))", 2, 0, "(a0* a1)"},
	}
	for _, r := range rows {
		e, code := impl.Derive(sig34, mustExpr(t, sig34, r.expr), r.atom, r.act)
		want(t, "derivative of "+r.expr, list(textOf(e), code), list(r.derived, impl.OK))
	}
	for _, atom := range []int64{-1, 2} {
		e, code := impl.Derive(sig12, one, atom, 0)
		empty, second := impl.EmptyAt(sig12, one, atom)
		want(t, "atom", list(e, code, empty, second), list(impl.Expr{}, impl.ErrRange, false, impl.ErrRange))
	}
	for _, act := range []int64{-1, 2} {
		e, code := impl.Derive(sig12, one, 0, act)
		want(t, "action", list(e, code), list(impl.Expr{}, impl.ErrRange))
	}
	_, first := impl.Derive(sig12, act(2), 9, 9)
	_, second := impl.EmptyAt(sig12, act(2), 9)
	want(t, "invalid first", list(first, second), list(impl.ErrInvalid, impl.ErrInvalid))
}

func TestDeriveLimit(t *testing.T) {
	large, size := mustExpr(t, sig01, derivedChain(15, map[int]int{6: 1, 15: 1})), int64(800)
	e, code := impl.Derive(sig01, large, 0, 0)
	want(t, "800 nodes", list(impl.ExprSize(e), code), list(size, impl.OK))
	e, code = impl.Derive(sig01, mustExpr(t, sig01, derivedChain(15, map[int]int{7: 1, 15: 1})), 0, 0)
	want(t, "801 nodes", list(e, code), list(impl.Expr{}, impl.ErrLimit))
	e, code = impl.Derive(sig01, tree(impl.ESum, large, zero), 0, 0)
	want(t, "a sum with 800 nodes", list(e, code), list(impl.Expr{}, impl.ErrLimit))
	e, code = impl.Derive(sig01, tree(impl.EStar, large), 0, 0)
	want(t, "800 nodes in a star", list(e, code), list(impl.Expr{}, impl.ErrLimit))
	for nots, wanted := range map[int]int{19: impl.OK, 20: impl.ErrLimit} { // 779 nodes, a sum and its second kid
		text := "(" + derivedChain(15, nil) + " + (a0 " + strings.Repeat("~", nots) + "1))"
		_, code = impl.Derive(sig01, mustExpr(t, sig01, text), 0, 0)
		want(t, "a sum", code, wanted)
	}
	for extra, wanted := range map[int]int{7: impl.OK, 8: impl.ErrLimit} { // a product with the star behind it
		text := derivedChain(14, map[int]int{extra: 1, 14: 1}) + "*"
		_, code = impl.Derive(sig01, mustExpr(t, sig01, text), 0, 0)
		want(t, "a star", code, wanted)
	}
	for nots, wanted := range map[int]int{11: impl.OK, 12: impl.ErrLimit} { // 787 nodes, a product and its second kid
		text := "((" + derivedChain(15, nil) + " (a0 ~1)) " + strings.Repeat("~", nots) + "1)"
		_, code = impl.Derive(sig01, mustExpr(t, sig01, text), 0, 0)
		want(t, "a product", code, wanted)
	}
}

// TestDeriveByTable: random derivatives, and those of derivatives.
func TestDeriveByTable(t *testing.T) {
	r := rand.New(rand.NewSource(12))
	for i := range 1500 {
		g := []impl.Sig{sig11, sig12, {Tests: 2, Actions: 2}, {Tests: 0, Actions: 3}}[i%4]
		e := randomExpr(r, g, 2+i%4)
		for range 3 {
			atom, a := r.Int63n(1<<g.Tests), r.Int63n(g.Actions)
			expected, ok := derived(e, atom, a)
			got, code := impl.Derive(g, e, atom, a)
			empty, second := impl.EmptyAt(g, e, atom)
			want(t, "derivative of "+textOf(e), list(textOf(got), code), list(textOf(expected), impl.OK))
			want(t, "empty word of "+textOf(e), list(empty, second, ok), list(emptyIn(e, atom), impl.OK, true))
			if e = expected; !impl.ValidExpr(g, e) {
				break
			}
		}
	}
}

func TestDeriveWord(t *testing.T) {
	rows := []struct{ expr, word, derived string }{
		{"((a0 + 0) (a1 1))", "0", "(a0 a1)"}, {"(t0 + 0)*", "1", "1"}, {"a0", "0 a0 0", "1"}, {"a0", "0 a1 0", "0"},
		{"a0", "0 a0 1 a0 0", "0"}, {"(a1 + 0)", "1 a1 0", "1"}, {"(a0 (t0 a1))", "0 a0 1 a1 0", "1"},
		{"(a0 (t0 a1))", "0 a0 0 a1 1", "0"}, {"(a0 (t0 a1))", "1 a0 0", "(t0 a1)"}, {"(a0 (a1 (a0 t0)))", "0 a0 0 a1 1", "(a0 t0)"},
		{"((a0 + a1) (a0 + (1 a1)))*", "0 a0 0 a1 0", "((a0 + a1) (a0 + a1))*"},
		{"((t0 a0) + (a0 a1))*", "0 a0 0 a1 0", "((a0 a1) + (t0 a0))*"}, {"((t0 a0) + (a0 a1))*", "1 a0 0", "((1 + a1) ((a0 a1) + (t0 a0))*)"},
	}
	for _, r := range rows {
		for last := range int64(2) { // the last atom does not matter
			w := mustWord(t, sig12, r.word)
			w.Atoms[len(w.Acts)] = last
			e, code := impl.DeriveWord(sig12, mustExpr(t, sig12, r.expr), w)
			want(t, "derivative of "+r.expr+" by "+r.word, list(textOf(e), code), list(r.derived, impl.OK))
		}
	}
	r := rand.New(rand.NewSource(13))
	for range 400 {
		e, w := randomExpr(r, sig12, 4), randomWord(r, sig12, r.Intn(6))
		expected, ok := tidied(e), true
		for i, a := range w.Acts {
			if i == 0 {
				expected = e
			}
			if ok {
				expected, ok = derived(expected, w.Atoms[i], a)
			}
		}
		got, code := impl.DeriveWord(sig12, e, w)
		if !ok {
			want(t, "too large", list(got, code), list(impl.Expr{}, impl.ErrLimit))
			continue
		}
		want(t, textOf(e)+" by "+impl.WordText(sig12, w), list(textOf(got), code), list(textOf(expected), impl.OK))
	}
}

// TestDeriveWordLimits: the result, and what is found on the way, has up to
// MaxDerived nodes, many more than a valid expression.
func TestDeriveWordLimits(t *testing.T) {
	limit, beyond := derivedChain(15, map[int]int{6: 1, 15: 1}), derivedChain(15, map[int]int{7: 1, 15: 1})
	rows := []struct {
		name, expr, word string
		size             int64
		code             int
	}{
		{"800 nodes at once", limit, "0 a0 0", 800, impl.OK},
		{"801 nodes at once", beyond, "0 a0 0", 0, impl.ErrLimit},
		{"800 nodes behind an action", "(a0 " + limit + ")", "0 a0 0 a0 0", 800, impl.OK},
		{"801 nodes behind an action", "(a0 " + beyond + ")", "0 a0 0 a0 0", 0, impl.ErrLimit},
		{"801 nodes that are not come to", "(a0 " + beyond + ")", "0 a0 0", 106, impl.OK},
		{"800 nodes on the way", limit, "0 a0 0 a0 0", 1, impl.OK},
		{"801 nodes on the way", beyond, "0 a0 0 a0 0", 0, impl.ErrLimit},
		{"no actions", beyond, "0", 106, impl.OK},
		{"802 nodes of an expression that is not tidy", "(" + limit + " + 0)", "0 a0 0", 0, impl.ErrLimit},
		{"802 nodes that are tidy by then", "((a0 1) (" + limit + " + 0))", "0 a0 0 a0 0", 800, impl.OK},
	}
	for _, r := range rows {
		e := mustExpr(t, sig01, r.expr)
		got, code := impl.DeriveWord(sig01, e, mustWord(t, sig01, r.word))
		want(t, r.name, code, r.code)
		if code != impl.OK {
			want(t, r.name, got, impl.Expr{})
			continue
		}
		want(t, r.name, impl.ExprSize(got), r.size)
	}
	longest := "0" + strings.Repeat(" a0 0", 10)
	got, code := impl.DeriveWord(sig01, mustExpr(t, sig01, balanced(11, "a0", " ")), mustWord(t, sig01, longest))
	want(t, "the longest word", list(textOf(got), code), list("a0", impl.OK))
}

func TestDeriveWordErrors(t *testing.T) {
	beyond := mustExpr(t, sig01, derivedChain(15, map[int]int{7: 1, 15: 1}))
	w := impl.Word{Atoms: []int64{0, 0}, Acts: []int64{0}}
	check := func(name string, g impl.Sig, e impl.Expr, w impl.Word) {
		t.Helper()
		got, code := impl.DeriveWord(g, e, w)
		want(t, name, list(got, code), list(impl.Expr{}, impl.ErrInvalid))
	}
	for name, e := range badExprs() {
		check(name, impl.Sig{Tests: 2, Actions: 2}, e, w)
	}
	for name, bad := range badWords() {
		check(name, sig12, one, bad)
	}
	for _, g := range badSigs {
		check("bad signature", g, one, w)
	}
	check("an atom of another signature, before the limit", sig01, beyond, impl.Word{Atoms: []int64{0, 1}, Acts: []int64{0}})
	check("an action of another signature, before the limit", sig01, beyond, impl.Word{Atoms: []int64{0, 0}, Acts: []int64{1}})
	check("a word that is too long", sig01, act(0), impl.Word{Atoms: make([]int64, 12), Acts: make([]int64, 11)})
	check("an action where there is none", sig00, one, w)
	for _, x := range []int64{math.MinInt64, math.MaxInt64} {
		_, first := impl.Derive(sig12, one, x, 0)
		_, second := impl.Derive(sig12, one, 0, x)
		_, third := impl.EmptyAt(sig12, one, x)
		want(t, "ends of the range", list(first, second, third), list(impl.ErrRange, impl.ErrRange, impl.ErrRange))
	}
	_, first := impl.Derive(sig00, one, 0, 0)
	_, second := impl.Derive(impl.Sig{Tests: 3}, one, 7, 0)
	_, third := impl.Derive(sig01, beyond, 1, 0)
	_, fourth := impl.Derive(sig01, beyond, 0, 1)
	want(t, "range before limit", list(first, second, third, fourth), list(impl.ErrRange, impl.ErrRange, impl.ErrRange, impl.ErrRange))
}

func TestStatesOf(t *testing.T) {
	rows := map[string]string{
		"0": "0", "(0 a0)": "0", "(t0 + 0)": "t0", "a0": "a0, 1", "(1 a0*)": "a0*", "(a0 (a1 a0))": "(a0 (a1 a0)), (a1 a0), a0, 1",
		"((t0 a1) + (a0 a0))":            "((a0 a0) + (t0 a1)), a0, 1",
		"((a1 t0) + (a0 (a1 a1)))":       "((a0 (a1 a1)) + (a1 t0)), (a1 a1), t0, a1, 1",
		"((t0 (a1 a0)) + (~t0 (a0 a1)))": "((t0 (a1 a0)) + (~t0 (a0 a1))), a1, a0, 1", // atoms before actions
		"(a0 + (a0 0))":                  "a0, 1", "((a0 a1)* 1)": "(a0 a1)*, (a1 (a0 a1)*)",
	}
	for text, states := range rows {
		found, code := impl.StatesOf(sig12, mustExpr(t, sig12, text))
		want(t, "states of "+text, list(textsOf(found), code), list(states, impl.OK))
	}
	found, code := impl.StatesOf(sig01, mustExpr(t, sig01, balanced(59, "a0", " ")))
	want(t, "60 states", list(len(found), code), list(60, impl.OK))
	beyond := derivedChain(15, map[int]int{7: 1, 15: 1})
	for _, text := range []string{balanced(60, "a0", " "), beyond, "(a0 " + beyond + ")"} {
		found, code = impl.StatesOf(sig01, mustExpr(t, sig01, text))
		a, second := impl.AutomatonOf(sig01, mustExpr(t, sig01, text))
		want(t, "a limit", list(found, code, a, second), list([]impl.Expr{}, impl.ErrLimit, impl.Automaton{}, impl.ErrLimit))
	}
	limit := derivedChain(15, map[int]int{6: 1, 15: 1})
	for _, text := range []string{limit, "(" + limit + " + 0)", "(" + limit + " 1)"} { // the states begin with the tidy form
		found, code = impl.StatesOf(sig01, mustExpr(t, sig01, text))
		want(t, "800 nodes", list(len(found), code), list(2, impl.OK))
		want(t, "800 nodes", impl.ExprSize(found[len(found)-1]), 800)
	}
	for name, e := range badExprs() {
		found, code = impl.StatesOf(impl.Sig{Tests: 2, Actions: 2}, e)
		a, second := impl.AutomatonOf(impl.Sig{Tests: 2, Actions: 2}, e)
		want(t, name, list(found, code, a, second), list([]impl.Expr{}, impl.ErrInvalid, impl.Automaton{}, impl.ErrInvalid))
	}
	_, first := impl.StatesOf(badSigs[0], one)
	_, second := impl.AutomatonOf(badSigs[3], one)
	want(t, "bad signature", list(first, second), list(impl.ErrInvalid, impl.ErrInvalid))
}

func TestAutomatonOf(t *testing.T) {
	a, code := impl.AutomatonOf(sig11, mustExpr(t, sig11, "(t0 a0)*"))
	want(t, "a loop", list(a, code), "[{Sig:{Tests:1 Actions:1} Accept:[[true true]] Next:[[[-1] [0]]]} 0]")
	a, code = impl.AutomatonOf(sig00, zero)
	want(t, "nothing", list(a, code), "[{Sig:{Tests:0 Actions:0} Accept:[[false]] Next:[[[]]]} 0]")
	a, code = impl.AutomatonOf(sig12, mustExpr(t, sig12, "(a1 ~t0)"))
	want(t, "two states", list(a, code), "[{Sig:{Tests:1 Actions:2} Accept:[[false false] [true false]] "+
		"Next:[[[-1 1] [-1 1]] [[-1 -1] [-1 -1]]]} 0]")
	a, code = impl.AutomatonOf(impl.Sig{Tests: 2}, test(1))
	want(t, "no actions", list(a, code), "[{Sig:{Tests:2 Actions:0} Accept:[[false false true true]] Next:[[[] [] [] []]]} 0]")
	a, code = impl.AutomatonOf(sig01, mustExpr(t, sig01, "(a0 a0)*"))
	want(t, "back to the first state", list(a, code), "[{Sig:{Tests:0 Actions:1} Accept:[[true] [false]] Next:[[[1]] [[0]]]} 0]")
	a, code = impl.AutomatonOf(sig01, mustExpr(t, sig01, "(a0 (a0* (a0 0)))"))
	want(t, "tidy before", list(a, code), "[{Sig:{Tests:0 Actions:1} Accept:[[false]] Next:[[[-1]]]} 0]")
	a, code = impl.AutomatonOf(sig11, mustExpr(t, sig11, "(a0 (t0 ~t0))"))
	want(t, "a dead state", list(a, code), "[{Sig:{Tests:1 Actions:1} Accept:[[false false] [false false]] Next:[[[1] [1]] [[-1] [-1]]]} 0]")
}

// TestStatesByTable: states and automata of random expressions, among them
// those whose derivatives have a summand twice or in another order.
func TestStatesByTable(t *testing.T) {
	r := rand.New(rand.NewSource(14))
	limits := 0
	for i := range 500 {
		g := []impl.Sig{sig11, sig12, {Tests: 2, Actions: 2}, {Tests: 0, Actions: 3}, {Tests: 2}, sig00}[i%6]
		e := randomExpr(r, g, 2+i%4)
		states, expected, ok := statesOf(g, e)
		found, first := impl.StatesOf(g, e)
		a, second := impl.AutomatonOf(g, e)
		if !ok {
			limits++
			want(t, "limit", list(found, first, a, second), list([]impl.Expr{}, impl.ErrLimit, impl.Automaton{}, impl.ErrLimit))
			continue
		}
		want(t, "states of "+textOf(e), list(textsOf(found), first), list(textsOf(states), impl.OK))
		want(t, "automaton of "+textOf(e), list(a, second, impl.ValidAutomaton(a)), list(expected, impl.OK, true))
	}
	if limits > 30 {
		t.Errorf("%d of the expressions meet a limit", limits)
	}
}

// TestSameMembership: membership is the same by structure, by derivatives and
// by automata, and in the tidy form.
func TestSameMembership(t *testing.T) {
	r := rand.New(rand.NewSource(11))
	for i := range 600 {
		g := []impl.Sig{sig11, sig12, {Tests: 2, Actions: 2}, {Tests: 0, Actions: 3}}[i%4]
		e := randomExpr(r, g, 2+i%4)
		a, code := impl.AutomatonOf(g, e)
		if code == impl.ErrLimit {
			continue
		}
		tidy, _ := impl.TidyExpr(g, e)
		for range 10 {
			w := randomWord(r, g, r.Intn(4))
			after, code := impl.DeriveWord(g, e, w)
			empty := emptyIn(after, w.Atoms[len(w.Acts)])
			inTidy, _ := impl.Matches(g, tidy, w)
			matches, _ := impl.Matches(g, e, w)
			runs, second := impl.RunAutomaton(a, w)
			yes := holds(e, w)
			want(t, impl.WordText(g, w)+" of "+textOf(e), list(matches, inTidy, empty, code, runs, second),
				list(yes, yes, yes, impl.OK, yes, impl.OK))
		}
	}
}
