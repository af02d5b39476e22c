package tests

import (
	"math/rand"
	"strings"
	"testing"

	"loop.example/g01101/impl"
)

// This file tests meets, differences, residuals, prefixes and least
// expressions: promise 7.

// smallSigs are signatures for which results often are small enough.
var smallSigs = []impl.Sig{sig01, sig11, sig12, {Tests: 0, Actions: 2}, {Tests: 2}, sig00}

func TestMeetAndMinus(t *testing.T) {
	rows := []struct{ e, f, meet, minus string }{
		{"0", "0", "0", "0"}, {"0", "a0", "0", "0"}, {"a0", "0", "0", "a0"}, {"a0", "a0", "a0", "0"}, {"a0", "a1", "0", "a0"},
		{"1", "a0*", "1", "0"}, {"a0*", "1", "1", "(a0* a0)"}, {"(a0 a0)", "(a0 + (a0 a0))", "(a0 a0)", "0"},
		{"(a0 + (a0 a0))", "a0", "a0", "(a0 a0)"}, {"(a0 + a1)*", "(a0 a1)*", "(a0 a1)*", ""}, {"(a0 a0)*", "(a0 (a0 a0))*", "", ""},
		{"(a0* a1)", "(a0 a1*)", "(a0 a1)", "((a0 (a0 (a0* a1))) + a1)"}, {"(a0 + 1)", "(a1 + 1)", "1", "a0"},
	}
	for _, r := range rows {
		g := impl.Sig{Tests: 0, Actions: 2}
		e, f := mustExpr(t, g, r.e), mustExpr(t, g, r.f)
		meet, first := impl.MeetExprs(g, e, f)
		minus, second := impl.MinusExprs(g, e, f)
		want(t, "codes of "+r.e+" and "+r.f, list(first, second), list(impl.OK, impl.OK))
		if r.meet != "" {
			want(t, "meet of "+r.e+" and "+r.f, equal(t, g, meet, mustExpr(t, g, r.meet)), true)
		}
		if r.minus != "" {
			want(t, r.e+" minus "+r.f, equal(t, g, minus, mustExpr(t, g, r.minus)), true)
		}
	}
	sixth, code := impl.MeetExprs(sig01, mustExpr(t, sig01, "(a0 a0)*"), mustExpr(t, sig01, "(a0 (a0 a0))*"))
	want(t, "lengths that both have", list(textOf(sixth), code), list(rightChain(repeat("a0", 6), " ")+"*", impl.OK))
	for text, row := range map[string][2]string{"(~t0 a0)": {"a0", "(t0 a0)"}, "((t0 a0) ~t0)": {"(t0 a0)", "(a0 t0)"}} {
		minus, code := impl.MinusExprs(sig11, mustExpr(t, sig11, row[0]), mustExpr(t, sig11, row[1]))
		want(t, row[0]+" minus "+row[1], list(equal(t, sig11, minus, mustExpr(t, sig11, text)), code), list(true, impl.OK))
	}
	both, code := impl.MeetExprs(sig11, mustExpr(t, sig11, "(t0 a0)"), mustExpr(t, sig11, "(a0 t0)"))
	want(t, "meet of steps", list(textOf(both), code), list("(t0 (a0 t0))", impl.OK))
	none, code := impl.MinusExprs(sig00, one, zero)
	want(t, "without tests and actions", list(textOf(none), code), list("1", impl.OK))
}

// TestOperationsByDefinition: each operation is the expression of the least
// automaton of its definition, word for word.
func TestOperationsByDefinition(t *testing.T) {
	r := rand.New(rand.NewSource(43))
	good, limits := map[string]int{}, 0
	for i := range 700 {
		g := append([]impl.Sig{{Tests: 1, Actions: 3}, {Tests: 2, Actions: 1}}, smallSigs...)[i%8]
		e, f := randomExpr(r, g, 2+i%3), randomExpr(r, g, 2+i%3)
		_, a, first := statesOf(g, e)
		_, b, second := statesOf(g, f)
		if !first || !second {
			limits++
			continue
		}
		check := func(name string, got impl.Expr, code int64, expected impl.Automaton) {
			t.Helper()
			x, wanted := leastExprOf(expected)
			want(t, name+" of "+textOf(e)+" and "+textOf(f), list(textOf(got), code), list(textOf(x), wanted))
			good[name] += one01(code == impl.OK && got.Kind != impl.EZero)
		}
		x, code := impl.LeastExpr(g, e)
		check("least", x, code, a)
		x, code = impl.MeetExprs(g, e, f)
		check("meet", x, code, mixedOf(a, b, impl.MixMeet))
		x, code = impl.MinusExprs(g, e, f)
		check("minus", x, code, mixedOf(a, b, impl.MixMinus))
		x, code = impl.ResidualExpr(g, e, f)
		check("residual", x, code, residualOf(a, b))
		x, code = impl.PrefixesOf(g, e)
		check("prefixes", x, code, prefixesOf(a))
	}
	for _, name := range []string{"least", "meet", "minus", "residual", "prefixes"} {
		if good[name] < 150 {
			t.Errorf("only %d expressions are told for %s", good[name], name)
		}
	}
	if limits > 60 {
		t.Errorf("%d of the pairs meet a limit", limits)
	}
}

// TestOperationsByWords: the words of each result, one by one.
func TestOperationsByWords(t *testing.T) {
	r := rand.New(rand.NewSource(44))
	results := 0
	for i := range 300 {
		g := smallSigs[i%len(smallSigs)]
		e, f := randomExpr(r, g, 2+i%2), randomExpr(r, g, 2+i%2)
		meet, first := impl.MeetExprs(g, e, f)
		minus, second := impl.MinusExprs(g, e, f)
		least, third := impl.LeastExpr(g, e)
		prefixes, fourth := impl.PrefixesOf(g, e)
		residual, fifth := impl.ResidualExpr(g, e, f)
		for n := range 3 {
			for _, w := range wordsOfLength(g, n) {
				x, y := holds(e, w), holds(f, w)
				name := impl.WordText(g, w) + ", " + textOf(e) + ", " + textOf(f)
				for _, row := range []struct {
					name   string
					result impl.Expr
					code   int64
					yes    bool
				}{{"meet", meet, first, x && y}, {"minus", minus, second, x && !y}, {"least", least, third, x}} {
					if row.code == impl.OK {
						results++
						want(t, row.name+" of "+name, holds(row.result, w), row.yes)
					}
				}
				if fourth == impl.OK && holds(prefixes, w) != goesOn(g, e, w) {
					t.Errorf("prefixes of %s: not %v", name, goesOn(g, e, w))
				}
				if fifth == impl.OK && holds(residual, w) && !mayFollow(g, e, f, w, 3) {
					t.Errorf("residual of %s: has a word that may not follow", name)
				}
				if fifth == impl.OK && !holds(residual, w) && mayFollow(g, e, f, w, 3) {
					want(t, "breaks by a longer word of e, "+name, breaksLater(t, g, e, f, w), true)
				}
			}
		}
	}
	if results < 3000 {
		t.Errorf("only %d results", results)
	}
}

// goesOn reports whether a word goes on to a word of e: e derived by the word
// has a word that begins with its last atom.
func goesOn(g impl.Sig, e impl.Expr, w impl.Word) bool {
	after, last := tidied(e), w.Atoms[len(w.Acts)]
	for i, a := range w.Acts {
		after, _ = derived(after, w.Atoms[i], a)
	}
	_, a, _ := statesOf(g, tree(impl.EDot, after, one))
	if a.Accept[0][last] {
		return true
	}
	for _, next := range a.Next[0][last] {
		if !acceptSame(a, a, next, -1) {
			return true
		}
	}
	return false
}

// mayFollow reports whether each word of e up to a length, with w behind it, is
// one of f.
func mayFollow(g impl.Sig, e, f impl.Expr, w impl.Word, length int) bool {
	for n := range length + 1 {
		for _, v := range wordsOfLength(g, n) {
			if v.Atoms[n] != w.Atoms[0] || !holds(e, v) {
				continue
			}
			if !holds(f, impl.Word{Atoms: append(append([]int64{}, v.Atoms...), w.Atoms[1:]...), Acts: append(append([]int64{}, v.Acts...), w.Acts...)}) {
				return false
			}
		}
	}
	return true
}

// breaksLater reports whether the product of e and a word is not at most f.
func breaksLater(t *testing.T, g impl.Sig, e, f impl.Expr, w impl.Word) bool {
	t.Helper()
	yes, code := impl.AtMost(g, tree(impl.EDot, e, wordExpr(g, w)), f)
	return code == impl.OK && !yes
}

// wordExpr is an expression with one word.
func wordExpr(g impl.Sig, w impl.Word) impl.Expr {
	e := conditionOf(g, w.Atoms[len(w.Acts)])
	for i := len(w.Acts) - 1; i >= 0; i-- {
		e = tree(impl.EDot, tree(impl.EDot, conditionOf(g, w.Atoms[i]), act(w.Acts[i])), e)
	}
	return e
}

func TestResidual(t *testing.T) {
	rows := []struct {
		g              impl.Sig
		e, f, residual string
	}{
		{sig01, "a0", "(a0 (a0 + 1))", "(a0 + 1)"}, {sig01, "1", "(a0 + 1)", "(a0 + 1)"}, {sig01, "a0", "1", "0"}, {sig01, "a0", "0", "0"},
		{sig01, "(a0 + 1)", "(a0 (a0 + 1))", "a0"}, {sig01, "a0*", "a0*", "a0*"}, {sig01, "(a0 a0)", "a0*", "a0*"}, {sig01, "a0*", "(a0 + 1)", "0"},
		{sig01, "(a0 a0)*", "(a0 a0)*", "(a0 a0)*"}, {sig01, "(a0 + (a0 a0))", "(a0 a0)*", "0"}, {sig01, "(a0 a0)", "(a0 (a0 a0))*", "(a0 (a0 (a0 a0))*)"},
		{sig12, "a0", "(a0 (t0 a1))", "(t0 a1)"}, {sig12, "(a0 + a1)", "((a0 a1) + (a1 (a1 + a0)))", "a1"}, {sig12, "a1", "(a0 a1)", "0"},
		// Words that never end at some atom, or that are none at all.
		{sig12, "0", "0", "(a0 + a1)*"}, {sig12, "0", "a0", "(a0 + a1)*"}, {sig12, "(a0 0)", "0", "(a0 + a1)*"}, {sig12, "(a0 (t0 ~t0))", "0", "(a0 + a1)*"},
		{sig00, "0", "0", "1"}, {sig00, "0", "1", "1"}, {sig00, "1", "0", "0"}, {sig00, "1", "1", "1"}, {impl.Sig{Tests: 1}, "t0", "0", "~t0"},
		{impl.Sig{Tests: 1}, "1", "t0", "t0"}, {impl.Sig{Tests: 2}, "t1", "(t0 t1)", "(~t1 + t0)"}, {impl.Sig{Tests: 3}, "0", "0", "1"},
		{sig11, "t0", "0", "(~t0 a0*)"}, {sig11, "t0", "t0", "(t0 + (~t0 a0*))"}, {sig11, "~t0", "a0", "(a0 + (t0 a0*))"}, {sig11, "1", "t0", "t0"},
		{sig11, "(a0 t0)", "0", "(~t0 a0*)"}, {sig11, "(a0 t0)", "a0", "(t0 + (~t0 a0*))"}, {sig11, "(a0 t0)", "(a0 a0)", "(a0 + (~t0 a0*))"},
		{sig11, "((a0 t0) + (a0 a0))", "(a0 (t0 + a0))", "1"}, {sig11, "(a0 (a0 t0))", "(a0 (a0 (t0 a0)))", "(a0 + (~t0 a0*))"},
		{sig11, "(t0 a0)", "a0", "1"}, {sig11, "(t0 a0)", "(t0 a0)", "1"}, {sig11, "a0", "(t0 a0)", "0"}, {sig11, "(~t0 a0)", "(t0 a0)", "0"},
		{sig11, "(a0 + t0)", "t0", "0"}, {sig11, "((a0 ~t0) + t0)", "t0", "t0"}, {sig11, "((a0 ~t0) + t0)", "(a0 + t0)", "(1 + (t0 a0))"},
	}
	for _, r := range rows {
		e, f := mustExpr(t, r.g, r.e), mustExpr(t, r.g, r.f)
		x, code := impl.ResidualExpr(r.g, e, f)
		want(t, "residual of "+r.e+" and "+r.f, list(code, equal(t, r.g, x, mustExpr(t, r.g, r.residual))), list(impl.OK, true))
	}
}

func TestPrefixes(t *testing.T) {
	rows := []struct {
		g              impl.Sig
		expr, prefixes string
	}{
		{sig01, "(a0 a0)", "(1 + (a0 + (a0 a0)))"}, {sig01, "0", "0"}, {sig01, "1", "1"}, {sig01, "a0*", "a0*"}, {sig01, "(a0 a0)*", "a0*"},
		{sig01, "(a0 ~1)", "0"}, {sig00, "0", "0"}, {sig00, "1", "1"}, {impl.Sig{Tests: 2}, "(t0 ~t1)", "(t0 ~t1)"},
		{sig12, "t0", "t0"}, {sig12, "(t0 ~t0)", "0"}, {sig12, "(t0 a0)", "(t0 + (t0 a0))"}, {sig12, "(a0 t0)", "(1 + (a0 t0))"},
		{sig12, "(a0 (t0 a1))", "(1 + ((a0 t0) + (a0 (t0 a1))))"}, {sig12, "(a0 (t0 ~t0))", "0"}, {sig12, "(a0 + (a1 (t0 ~t0)))", "(1 + a0)"},
		{sig12, "((t0 a0) + (a1 (~t0 a1)))", "(1 + ((t0 a0) + ((a1 ~t0) + (a1 (~t0 a1)))))"}, {sig12, "(a0 a1)*", "((a0 a1)* (1 + a0))"},
		{sig12, "(a0* (t0 (a1 (t0 ~t0))))", "0"}, {sig12, "((~t0 a0)* t0)", "(~t0 a0)*"}, {sig12, "((t0 a0)* (t0 a1))", "((t0 a0)* (t0 + (t0 a1)))"},
	}
	for _, r := range rows {
		x, code := impl.PrefixesOf(r.g, mustExpr(t, r.g, r.expr))
		want(t, "prefixes of "+r.expr, list(code, equal(t, r.g, x, mustExpr(t, r.g, r.prefixes))), list(impl.OK, true))
	}
}

func TestLeastExpr(t *testing.T) {
	rows := map[string]string{
		"0": "0", "1": "1", "(a0 + (a0 1))": "a0", "a0**": "a0*", "(1 + (a0 a0*))": "a0*", "(a0 ~1)": "0", "(a0 a1)": "(a0 a1)",
		"((a0 a1) + (a0 (a1 ~0)))": "(a0 a1)", "(a0 + a1)": "(a0 + a1)", "((a0 a1)* (a0 (a1 ~1)))": "0", "(a1 (a0 a1)*)": "((a1 a0)* a1)",
	}
	for text, least := range rows {
		x, code := impl.LeastExpr(impl.Sig{Actions: 2}, mustExpr(t, impl.Sig{Actions: 2}, text))
		want(t, "least of "+text, list(textOf(x), code), list(least, impl.OK))
	}
	for _, pair := range equalTexts {
		x, first := impl.LeastExpr(sig12, mustExpr(t, sig12, pair[0]))
		y, second := impl.LeastExpr(sig12, mustExpr(t, sig12, pair[1]))
		want(t, "the same for equal ones, "+pair[0], list(textOf(x), first), list(textOf(y), second))
	}
	for _, g := range []impl.Sig{sig34, {Tests: 3, Actions: 3}} {
		all, _ := impl.AllWords(g)
		x, code := impl.LeastExpr(g, all)
		y, second := impl.PrefixesOf(g, all)
		want(t, "an expression that would be too large", list(x, code, y, second), list(impl.Expr{}, impl.ErrLimit, impl.Expr{}, impl.ErrLimit))
	}
	for factors, code := range map[int]int{40: impl.ErrLimit, 39: impl.OK, 41: impl.ErrLimit, 59: impl.ErrLimit} {
		x, got := impl.LeastExpr(sig01, tree(impl.EDot, mustExpr(t, sig01, balanced(factors, "a0", " ")), act(0)))
		text := "none"
		if code == impl.OK {
			text = rightChain(repeat("a0", factors+1), " ")
		}
		want(t, "depth", list(textOf(x), got), list(text, code))
	}
}

// TestOperationLimits: as many states as are allowed before an automaton is
// made least, and one more; the results are small.
func TestOperationLimits(t *testing.T) {
	sum := func(e, f string) string { return "(" + e + " + " + f + ")" }
	rows := []struct {
		name   string
		states int
		e, f   string
		of     func(g impl.Sig, e, f impl.Expr) (impl.Expr, int64)
		result string
	}{
		{"meet of 60 pairs", 60, dead(4), dead(15), impl.MeetExprs, "0"}, {"minus of 60 pairs", 60, dead(4), dead(15), impl.MinusExprs, "0"},
		{"meet of 62 pairs", 62, dead(2), dead(31), impl.MeetExprs, ""}, {"minus of 62 pairs", 62, dead(2), dead(31), impl.MinusExprs, ""},
		{"meet of 60 pairs, many of them with -1", 60, sum("t0", dead(59)), "t0", impl.MeetExprs, "t0"},
		{"minus of 60 pairs, many of them with -1", 60, sum("t0", dead(58)), "(t0 + (a0 ~1))", impl.MinusExprs, "0"},
		{"meet of 61 pairs, many of them with -1", 61, sum("t0", dead(59)), "(t0 + (a0 ~1))", impl.MeetExprs, ""},
		{"minus of 61 pairs, many of them with -1", 61, "(t0 + (a0 ~1))", sum("t0", dead(59)), impl.MinusExprs, ""},
		{"residual of 60 states, of which all are sets but the first one", 60, "1", dead(59), impl.ResidualExpr, "0"},
		{"residual of 61 states, of which all are sets but the first one", 61, "1", dead(60), impl.ResidualExpr, ""},
		{"residual with the first one and the empty set", 2, "0", dead(60), impl.ResidualExpr, "a0*"},
		{"residual with the first one and -1 alone", 2, "a0", "a0", impl.ResidualExpr, "1"},
		{"residual of 60 states, with sets of two", 60, "(1 + a0)", dead(59), impl.ResidualExpr, "0"},
		{"residual of 61 states, with sets of two", 61, "(1 + a0)", dead(60), impl.ResidualExpr, ""},
		{"residual with a set that is not come back to", 31, "(1 + a0)", sum("t0", dead(30)), impl.ResidualExpr, "0"},
		{"residual of 121 sets", 121, "(1 + (a0 t0))", dead(60), impl.ResidualExpr, ""},
		{"residual of 60 states, sets with -1 among them", 60, "(1 + a1)", dead(58), impl.ResidualExpr, "0"},
		{"residual of 61 states, sets with -1 among them", 61, "(1 + a1)", dead(59), impl.ResidualExpr, ""},
	}
	for _, r := range rows {
		g := sig11
		if strings.Contains(r.e, "a1") {
			g = sig12
		}
		e, f := mustExpr(t, g, r.e), mustExpr(t, g, r.f)
		_, a, _ := statesOf(g, e)
		_, b, _ := statesOf(g, f)
		made := mixedOf(a, b, impl.MixMeet)
		if strings.HasPrefix(r.name, "residual") {
			made = residualOf(a, b)
		}
		want(t, r.name+": as many states", len(made.Accept), r.states)
		x, code := r.of(g, e, f)
		if r.result == "" {
			want(t, r.name, list(x, code), list(impl.Expr{}, impl.ErrLimit))
		} else {
			want(t, r.name, list(code, equal(t, g, x, mustExpr(t, g, r.result))), list(impl.OK, true))
		}
	}
}

// TestOperationLaws: what operations have to do with the order, where they
// have an answer.
func TestOperationLaws(t *testing.T) {
	r := rand.New(rand.NewSource(45))
	checked := map[string]int{}
	law := func(g impl.Sig, name string, left, right impl.Expr, same bool) {
		t.Helper()
		yes, code := impl.AtMost(g, left, right)
		if same {
			yes, code = impl.EqualExprs(g, left, right)
		}
		if code == impl.OK {
			checked[name]++
			want(t, name+": "+textOf(left)+" and "+textOf(right), yes, true)
		}
	}
	for i := range 400 {
		g := smallSigs[i%len(smallSigs)]
		e, f, x := randomExpr(r, g, 2+i%2), randomExpr(r, g, 2+i%2), randomExpr(r, g, 2)
		meet, first := impl.MeetExprs(g, e, f)
		minus, second := impl.MinusExprs(g, e, f)
		if first == impl.OK && second == impl.OK {
			law(g, "meet is at most the first", meet, e, false)
			law(g, "meet is at most the second", meet, f, false)
			law(g, "minus is at most the first", minus, e, false)
			law(g, "both make the first", tree(impl.ESum, meet, minus), e, true)
			none, code := impl.MeetExprs(g, minus, f)
			if empty, second := impl.IsEmptyExpr(g, none); code == impl.OK && second == impl.OK {
				checked["minus has nothing of the second"]++
				want(t, "minus of "+textOf(e)+" and "+textOf(f), empty, true)
			}
		}
		if other, code := impl.MeetExprs(g, f, e); first == impl.OK && code == impl.OK {
			law(g, "meet the other way round", meet, other, true)
		}
		if residual, code := impl.ResidualExpr(g, e, f); code == impl.OK {
			law(g, "the residual may follow", tree(impl.EDot, e, residual), f, false)
			may, first := impl.AtMost(g, tree(impl.EDot, e, x), f)
			below, second := impl.AtMost(g, x, residual)
			if first == impl.OK && second == impl.OK {
				checked["the residual is the weakest"]++
				checked["it is not too weak"] += one01(may)
				want(t, textOf(x)+" behind "+textOf(e)+" at most "+textOf(f), may, below)
			}
		}
		if residual, code := impl.ResidualExpr(g, e, tree(impl.EDot, e, x)); code == impl.OK {
			law(g, "what follows is at most the residual", x, residual, false)
		}
		if prefixes, code := impl.PrefixesOf(g, e); code == impl.OK {
			law(g, "words are their prefixes", e, prefixes, false)
			if again, code := impl.PrefixesOf(g, prefixes); code == impl.OK {
				law(g, "prefixes of prefixes", again, prefixes, true)
			}
			if longer, code := impl.PrefixesOf(g, tree(impl.EDot, e, f)); code == impl.OK {
				law(g, "prefixes of a product", longer, tree(impl.ESum, prefixes, tree(impl.EDot, e, mustPrefixes(g, f))), false)
			}
		}
		if least, code := impl.LeastExpr(g, e); code == impl.OK {
			law(g, "least", least, e, true)
		}
	}
	for _, name := range []string{"meet is at most the first", "meet is at most the second", "minus is at most the first", "both make the first",
		"minus has nothing of the second", "meet the other way round", "the residual may follow", "the residual is the weakest", "it is not too weak",
		"what follows is at most the residual", "words are their prefixes", "prefixes of prefixes", "prefixes of a product", "least"} {
		if checked[name] < 70 {
			t.Errorf("%s: only checked %d times", name, checked[name])
		}
	}
}

// mustPrefixes are the prefixes, or where they are too large all words.
func mustPrefixes(g impl.Sig, e impl.Expr) impl.Expr {
	if prefixes, code := impl.PrefixesOf(g, e); code == impl.OK {
		return prefixes
	}
	all, _ := impl.AllWords(g)
	return all
}
