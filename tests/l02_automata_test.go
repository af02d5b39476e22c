package tests

import (
	"math/rand"
	"strings"
	"testing"

	"loop.example/g01101/impl"
)

// This file tests what the words of chapter 1 need of chapter 2.

// textOf is the text of an expression that need not be valid.
func textOf(e impl.Expr) string {
	switch e.Kind {
	case impl.EZero:
		return "0"
	case impl.EOne:
		return "1"
	case impl.ETest:
		return "t" + string('0'+rune(e.Num))
	case impl.EAct:
		return "a" + string('0'+rune(e.Num))
	case impl.ENot:
		return "~" + textOf(e.Kids[0])
	case impl.ESum:
		return "(" + textOf(e.Kids[0]) + " + " + textOf(e.Kids[1]) + ")"
	case impl.EDot:
		return "(" + textOf(e.Kids[0]) + " " + textOf(e.Kids[1]) + ")"
	}
	return textOf(e.Kids[0]) + "*"
}

func TestTidyExpr(t *testing.T) {
	rows := map[string]string{
		"0": "0", "1": "1", "t0": "t0", "a1": "a1", "~(0 + (1 t0))": "~(0 + (1 t0))", "(0 + 0)": "0",
		"(a0 + 0)": "a0", "(0 + a0)": "a0", "(a1 + a0)": "(a0 + a1)", "(a0 + a0)": "a0", "(t0 + a0)": "(a0 + t0)",
		"(1 + (a1 + (a0 + a1)))": "((1 + a0) + a1)", "((a0 a1) + (1 + 0))": "((a0 a1) + 1)", "(a0* + a0)": "(a0 + a0*)",
		"(a0 0)": "0", "(0 a0)": "0", "(1 a0)": "a0", "(a0 1)": "a0", "((a0 a1) a2)": "(a0 (a1 a2))",
		"(((a0 a1) (a2 a3)) a0)": "(a0 (a1 (a2 (a3 a0))))", "((a0 + 0) (1 (a1 1)))": "(a0 a1)", "((a0 (0 + 0)) + a1)": "a1",
		"t0*": "1", "~t0*": "1", "(t0 a0)*": "(t0 a0)*", "a0**": "a0*", "a0***": "a0*", "(0 a0)*": "1", "(a0* 1)*": "a0*",
		"((a1 + a0)* + (a0 + a1)*)": "(a0 + a1)*", "(~t1 + ~t0)": "(~t0 + ~t1)",
	}
	for text, tidied := range rows {
		e, code := impl.TidyExpr(sig34, mustExpr(t, sig34, text))
		want(t, "tidy "+text, list(textOf(e), code), list(tidied, impl.OK))
	}
	r := rand.New(rand.NewSource(10))
	for range 300 {
		e := randomExpr(r, sig12, 5)
		once, first := impl.TidyExpr(sig12, e)
		twice, second := impl.TidyExpr(sig12, once)
		want(t, "tidy again", list(textOf(twice), second), list(textOf(once), first))
		w := randomWord(r, sig12, r.Intn(4))
		want(t, "words of "+textOf(e), holds(once, w), holds(e, w))
	}
	for name, e := range badExprs() {
		got, code := impl.TidyExpr(impl.Sig{Tests: 2, Actions: 2}, e)
		want(t, name, list(got, code), list(impl.Expr{}, impl.ErrInvalid))
	}
}

func TestDerive(t *testing.T) {
	rows := []struct {
		expr      string
		atom, act int64
		derived   string
	}{
		{"0", 0, 0, "0"}, {"1", 0, 0, "0"}, {"t0", 1, 0, "0"}, {"~t0", 0, 0, "0"}, {"a0", 0, 0, "1"}, {"a0", 0, 1, "0"},
		{"(a0 + (a0 a1))", 0, 0, "(1 + a1)"}, {"(t0 a0)", 1, 0, "1"}, {"(t0 a0)", 0, 0, "0"}, {"((t0 + a0) (a0 a1))", 0, 0, "(a0 a1)"},
		{"((t0 + a0) (a0 a1))", 1, 0, "((a0 a1) + a1)"}, {"a0*", 0, 0, "a0*"}, {"(a0 (1 a1))*", 0, 0, "(a1 (a0 a1)*)"},
		{"(a0 (a1 + (0 + t0)))", 0, 0, "(a1 + t0)"}, {"(~t0 (a0* a1))", 0, 1, "1"}, {"(~t0 (a0* a1))", 2, 0, "(a0* a1)"},
	}
	for _, r := range rows {
		e, code := impl.Derive(sig34, mustExpr(t, sig34, r.expr), r.atom, r.act)
		want(t, "derivative of "+r.expr, list(textOf(e), code), list(r.derived, impl.OK))
	}
	for _, atom := range []int64{-1, 2} {
		e, code := impl.Derive(sig12, one, atom, 0)
		empty, second := impl.EmptyAt(sig12, one, atom)
		want(t, "atom", list(e, code, empty, second), list(impl.Expr{}, impl.ErrRange, false, impl.ErrRange))
	}
	for _, act := range []int64{-1, 2} {
		e, code := impl.Derive(sig12, one, 0, act)
		want(t, "action", list(e, code), list(impl.Expr{}, impl.ErrRange))
	}
	_, first := impl.Derive(sig12, act(2), 9, 9)
	_, second := impl.EmptyAt(sig12, act(2), 9)
	want(t, "invalid first", list(first, second), list(impl.ErrInvalid, impl.ErrInvalid))
}

func TestDeriveLimit(t *testing.T) {
	large, size := mustExpr(t, sig01, derivedChain(15, map[int]int{6: 1, 15: 1})), int64(800)
	e, code := impl.Derive(sig01, large, 0, 0)
	want(t, "800 nodes", list(impl.ExprSize(e), code), list(size, impl.OK))
	e, code = impl.Derive(sig01, mustExpr(t, sig01, derivedChain(15, map[int]int{7: 1, 15: 1})), 0, 0)
	want(t, "801 nodes", list(e, code), list(impl.Expr{}, impl.ErrLimit))
	e, code = impl.Derive(sig01, tree(impl.ESum, large, zero), 0, 0)
	want(t, "a sum with 800 nodes", list(e, code), list(impl.Expr{}, impl.ErrLimit))
	e, code = impl.Derive(sig01, tree(impl.EStar, large), 0, 0)
	want(t, "800 nodes in a star", list(e, code), list(impl.Expr{}, impl.ErrLimit))
	for nots, wanted := range map[int]int{19: impl.OK, 20: impl.ErrLimit} { // 779 nodes, a sum and its second kid
		text := "(" + derivedChain(15, nil) + " + (a0 " + strings.Repeat("~", nots) + "1))"
		_, code = impl.Derive(sig01, mustExpr(t, sig01, text), 0, 0)
		want(t, "a sum", code, wanted)
	}
	for extra, wanted := range map[int]int{7: impl.OK, 8: impl.ErrLimit} { // a product with the star behind it
		text := derivedChain(14, map[int]int{extra: 1, 14: 1}) + "*"
		_, code = impl.Derive(sig01, mustExpr(t, sig01, text), 0, 0)
		want(t, "a star", code, wanted)
	}
	for nots, wanted := range map[int]int{11: impl.OK, 12: impl.ErrLimit} { // 787 nodes, a product and its second kid
		text := "((" + derivedChain(15, nil) + " (a0 ~1)) " + strings.Repeat("~", nots) + "1)"
		_, code = impl.Derive(sig01, mustExpr(t, sig01, text), 0, 0)
		want(t, "a product", code, wanted)
	}
}

func TestStatesOf(t *testing.T) {
	rows := map[string]string{
		"0": "0", "(0 a0)": "0", "(t0 + 0)": "t0", "a0": "a0, 1", "(1 a0*)": "a0*", "(a0 (a1 a0))": "(a0 (a1 a0)), (a1 a0), a0, 1",
		"((t0 a1) + (a0 a0))":      "((a0 a0) + (t0 a1)), a0, 1",
		"((a1 t0) + (a0 (a1 a1)))": "((a0 (a1 a1)) + (a1 t0)), (a1 a1), t0, a1, 1",
	}
	for text, states := range rows {
		found, code := impl.StatesOf(sig12, mustExpr(t, sig12, text))
		names := []string{}
		for _, e := range found {
			names = append(names, textOf(e))
		}
		want(t, "states of "+text, list(strings.Join(names, ", "), code), list(states, impl.OK))
	}
	found, code := impl.StatesOf(sig01, mustExpr(t, sig01, balanced(59, "a0", " ")))
	want(t, "60 states", list(len(found), code), list(60, impl.OK))
	found, code = impl.StatesOf(sig01, mustExpr(t, sig01, balanced(60, "a0", " ")))
	a, second := impl.AutomatonOf(sig01, mustExpr(t, sig01, balanced(60, "a0", " ")))
	want(t, "61 states", list(found, code, a, second), list([]impl.Expr{}, impl.ErrLimit, impl.Automaton{}, impl.ErrLimit))
	found, code = impl.StatesOf(sig01, act(1))
	a, second = impl.AutomatonOf(sig01, act(1))
	want(t, "invalid", list(found, code, a, second), list([]impl.Expr{}, impl.ErrInvalid, impl.Automaton{}, impl.ErrInvalid))
}

func TestAutomatonOf(t *testing.T) {
	a, code := impl.AutomatonOf(sig11, mustExpr(t, sig11, "(t0 a0)*"))
	want(t, "a loop", list(a, code), "[{Sig:{Tests:1 Actions:1} Accept:[[true true]] Next:[[[-1] [0]]]} 0]")
	a, code = impl.AutomatonOf(sig00, zero)
	want(t, "nothing", list(a, code), "[{Sig:{Tests:0 Actions:0} Accept:[[false]] Next:[[[]]]} 0]")
	a, code = impl.AutomatonOf(sig12, mustExpr(t, sig12, "(a1 ~t0)"))
	want(t, "two states", list(a, code), "[{Sig:{Tests:1 Actions:2} Accept:[[false false] [true false]] "+
		"Next:[[[-1 1] [-1 1]] [[-1 -1] [-1 -1]]]} 0]")
}

// accepted runs a word through an automaton.
func accepted(a impl.Automaton, w impl.Word) bool {
	state := int64(0)
	for i, act := range w.Acts {
		state = a.Next[state][w.Atoms[i]][act]
		if state < 0 {
			return false
		}
	}
	return a.Accept[state][w.Atoms[len(w.Acts)]]
}

// TestSameMembership: membership is the same by structure, by derivatives and
// by automata.
func TestSameMembership(t *testing.T) {
	r := rand.New(rand.NewSource(11))
	for range 500 {
		e := randomExpr(r, sig12, 4)
		a, code := impl.AutomatonOf(sig12, e)
		if code == impl.ErrLimit {
			continue
		}
		for range 10 {
			w := randomWord(r, sig12, r.Intn(4))
			derived := e
			for i, act := range w.Acts {
				derived, _ = impl.Derive(sig12, derived, w.Atoms[i], act)
			}
			empty, _ := impl.EmptyAt(sig12, derived, w.Atoms[len(w.Acts)])
			matches, _ := impl.Matches(sig12, e, w)
			if yes := holds(e, w); matches != yes || empty != yes && impl.ValidExpr(sig12, derived) || accepted(a, w) != yes {
				t.Fatalf("%s of %s: %v %v %v", impl.WordText(sig12, w), textOf(e), matches, empty, accepted(a, w))
			}
		}
	}
}
