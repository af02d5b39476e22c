package tests

import (
	"math/rand"
	"slices"
	"strconv"
	"strings"
	"testing"

	"loop.example/g01101/impl"
)

// This file tests equations, patterns and paths: promise 8.

// axiomTexts are the axioms as the table of the specification has them.
var axiomTexts = []string{
	"(a0 + (a1 + a2)) = ((a0 + a1) + a2)", "(a0 + a1) = (a1 + a0)", "(a0 + 0) = a0", "(a0 + a0) = a0",
	"(a0 (a1 a2)) = ((a0 a1) a2)", "(1 a0) = a0", "(a0 1) = a0", "(a0 (a1 + a2)) = ((a0 a1) + (a0 a2))",
	"((a0 + a1) a2) = ((a0 a2) + (a1 a2))", "(0 a0) = 0", "(a0 0) = 0", "(1 + (a0 a0*)) = a0*", "(1 + (a0* a0)) = a0*",
	"(t0 t0) = t0", "(t0 t1) = (t1 t0)", "(t0 + ~t0) = 1", "(t0 ~t0) = 0", "~~t0 = t0", "~(t0 + t1) = (~t0 ~t1)",
	"~(t0 t1) = (~t0 + ~t1)", "~0 = 1", "~1 = 0", "(t0 + 1) = 1", "((t0 + t1) (t0 + t2)) = (t0 + (t1 t2))",
}

func TestAxioms(t *testing.T) {
	texts := []string{}
	for _, q := range impl.Axioms() {
		texts = append(texts, textOf(q.Left)+" = "+textOf(q.Right))
	}
	want(t, "axioms", strings.Join(texts, "\n"), strings.Join(axiomTexts, "\n"))
	for i, q := range impl.Axioms() {
		want(t, "axiom", list(impl.EquationText(wholeSig, q), impl.ValidEquation(wholeSig, q)), list(axiomTexts[i], true))
	}
}

func TestEquations(t *testing.T) {
	for _, text := range []string{"0 = 0", "a0* = ~t0*", "((a0 + t0) a1) = 1", "~(t0 + 1) = (a0 (a1 a0))"} {
		left, right, _ := strings.Cut(text, " = ")
		q, code := impl.ReadEquation(sig12, text)
		want(t, text, list(q, code), list(impl.Equation{Left: mustExpr(t, sig12, left), Right: mustExpr(t, sig12, right)}, impl.OK))
		want(t, "text of "+text, list(impl.EquationText(sig12, q), impl.ValidEquation(sig12, q)), list(text, true))
		for _, g := range badSigs {
			want(t, "bad signature", list(impl.EquationText(g, q), impl.ValidEquation(g, q)), list("", false))
		}
	}
	g := impl.Sig{Tests: 2, Actions: 2}
	for name, e := range badExprs() {
		for _, q := range []impl.Equation{{Left: e, Right: one}, {Left: one, Right: e}, {Left: e, Right: e}} {
			want(t, name, list(impl.EquationText(g, q), impl.ValidEquation(g, q)), list("", false))
		}
	}
	largest, tooLarge := balanced(100, "a0", " ")+"*", balanced(100, "a0", " ")+"**"
	deepest, tooDeep := "a0"+strings.Repeat("*", 39), "a0"+strings.Repeat("*", 40)
	for _, row := range []struct {
		left, right string
		code        int
	}{
		{largest, largest, impl.OK}, {tooLarge, "1", impl.ErrSyntax}, {"1", tooLarge, impl.ErrSyntax},
		{deepest, deepest, impl.OK}, {tooDeep, "1", impl.ErrSyntax}, {"1", tooDeep, impl.ErrSyntax},
		{"t0", "t1", impl.ErrSyntax}, {"a2", "a0", impl.ErrSyntax}, {"~a0", "1", impl.ErrSyntax}, {"1", "~t0**", impl.OK}, {"1", "~(t0*)", impl.ErrSyntax},
	} {
		q, code := impl.ReadEquation(sig12, row.left+" = "+row.right)
		want(t, short(row.left+" = "+row.right), code, row.code)
		if row.code == impl.OK {
			want(t, "text", impl.EquationText(sig12, q), row.left+" = "+row.right)
		}
	}
}

func TestReadEquationErrors(t *testing.T) {
	texts := []string{"", "1", "1 = ", " = 1", "1 = 1 ", " 1 = 1", "1 = 1\n", "1  = 1", "1 =  1", "1=1", "1 =1", "1= 1", "1 == 1", "1 = 1 = 1",
		"(1 = 1)", "1 = x", "a00 = 1", "1 = a01", "t00 = 1", "1 = a2", "a0 = t1", "(a0 +  a1) = 1", "1 = (a0 a1", "1\t= 1", "1 = 1\x00", "1 + 1 = 1", "a0 = a"}
	for _, text := range texts {
		q, code := impl.ReadEquation(sig12, text)
		want(t, "read "+text, list(q, code), list(impl.Equation{}, impl.ErrSyntax))
	}
	for _, g := range badSigs {
		for _, text := range []string{"1 = 1", "", strings.Repeat("~", 9000)} {
			q, code := impl.ReadEquation(g, text)
			want(t, "bad signature", list(q, code), list(impl.Equation{}, impl.ErrInvalid))
		}
	}
	for length, wanted := range map[int]int{4001: impl.ErrSyntax, 7999: impl.ErrSyntax, 8000: impl.ErrSyntax, 8001: impl.ErrRange, 20000: impl.ErrRange} {
		for _, part := range []string{"~", "*", "(", "1 = ", "x"} {
			text := strings.Repeat(part, length)[:length-5] + "1 = 1"
			q, code := impl.ReadEquation(sig12, text)
			want(t, "long text of "+part, list(q, code), list(impl.Equation{}, wanted))
		}
	}
}

func TestSubstitute(t *testing.T) {
	sums, stars := balanced(100, "t0", " + "), "a0"+strings.Repeat("*", 38)
	rows := []struct {
		g                    impl.Sig
		pattern, tests, acts string
		result               string
		code                 int
	}{
		{sig12, "0", "", "", "0", impl.OK}, {sig12, "1", "t0", "a0; a1", "1", impl.OK},
		{sig12, "t0", "~t0", "", "~t0", impl.OK}, {sig12, "a0", "", "(a0 a1)", "(a0 a1)", impl.OK},
		{sig12, "(t0 a0)", "~t0", "(a0 a1)", "(~t0 (a0 a1))", impl.OK},
		{sig12, "((a0 + a1)* ~(t0 + t1))", "(t0 1); 0", "a1; a0", "((a1 + a0)* ~((t0 1) + 0))", impl.OK},
		{sig12, "(a3 (t2 a3))", "1; 0; t0", "0; 1; a0; t0*", "(t0* (t0 t0*))", impl.OK},
		{sig12, "(a0 + a0)", "", "(a1 + t0)", "((a1 + t0) + (a1 + t0))", impl.OK},
		{sig00, "(t2 + a3)", "0; 0; 1", "0; 0; 0; 0*", "(1 + 0*)", impl.OK},
		{sig12, "a0", "t0; 0; 1; ~t0; t0", "a0; a1; a0; a1; a0; a1", "a0", impl.OK},
		{sig12, "(t0 + a0)", "", "a0", "", impl.ErrRange}, {sig12, "(t0 + a0)", "t0", "", "", impl.ErrRange},
		{sig12, "t1", "t0", "a0", "", impl.ErrRange}, {sig12, "~(1 + t2)", "t0; t0", "", "", impl.ErrRange},
		{sig12, "(1 a3)*", "t0", "a0; a0; a0", "", impl.ErrRange}, {sig12, "(a1 a0)", "", "a0", "", impl.ErrRange},
		{sig12, "a0", "a0", "a0", "", impl.ErrState}, {sig12, "t0", "t0; t0*", "", "", impl.ErrState},
		{sig12, "1", "(t0 a0)", "", "", impl.ErrState}, {sig12, "(t1 a3)", "(a0 + 1)", "", "", impl.ErrState},
		{sig12, "(a0 a1)", "", balanced(50, "a0", " ") + "; " + balanced(50, "a0", " ") + "*", "(" + balanced(50, "a0", " ") + " " + balanced(50, "a0", " ") + "*)", impl.OK},
		{sig12, "(a0 a1)", "", balanced(50, "a0", " ") + "*; " + balanced(50, "a0", " ") + "*", "", impl.ErrLimit},
		{sig12, "(t0 + t0)", balanced(50, "t0", " + "), "", sums, impl.OK},
		{sig12, "((t0 + t0) 1)", balanced(50, "t0", " + "), "", "", impl.ErrLimit},
		{sig12, "a0*", "", stars, stars + "*", impl.OK}, {sig12, "a0**", "", stars, "", impl.ErrLimit},
		{sig12, "~t0", "~" + strings.Repeat("~", 37) + "t0", "", "~~" + strings.Repeat("~", 37) + "t0", impl.OK},
		{sig12, "~~t0", "~" + strings.Repeat("~", 37) + "t0", "", "", impl.ErrLimit},
		{sig12, balanced(99, "a0", " "), "", balanced(100, "a0", " "), "", impl.ErrLimit},
	}
	for _, r := range rows {
		pattern := mustExpr(t, wholeSig, r.pattern)
		e, code := impl.Substitute(r.g, pattern, mustExprs(t, r.g, r.tests), mustExprs(t, r.g, r.acts))
		want(t, short(r.pattern+" by "+r.tests+" and "+r.acts), list(textIf(e, code), code), list(r.result, r.code))
		if code != impl.OK {
			want(t, "nothing for "+r.pattern, e, impl.Expr{})
		}
	}
}

// textIf is the text of a result, if there is one.
func textIf(e impl.Expr, code int64) string {
	if code != impl.OK {
		return ""
	}
	return textOf(e)
}

func TestSubstituteErrors(t *testing.T) {
	g := impl.Sig{Tests: 2, Actions: 2}
	refused := func(name string, g impl.Sig, e impl.Expr, tests, acts []impl.Expr, code int) {
		t.Helper()
		x, got := impl.Substitute(g, e, tests, acts)
		want(t, name, list(x, got), list(impl.Expr{}, code))
	}
	for name, e := range badExprs() {
		refused("element of tests: "+name, g, one, []impl.Expr{one, e}, nil, impl.ErrInvalid)
		refused("element of acts: "+name, g, one, nil, []impl.Expr{one, e}, impl.ErrInvalid)
		refused("element behind those that count: "+name, g, act(0), []impl.Expr{act(0)}, []impl.Expr{one, one, one, one, one, e}, impl.ErrInvalid)
		if !slices.Contains([]string{"test 2", "action 2", "fault in a first kid", "fault in a second kid"}, name) { // these are patterns
			refused("pattern: "+name, g, e, []impl.Expr{one, one, one}, []impl.Expr{one, one, one, one}, impl.ErrInvalid)
		}
	}
	for name, e := range map[string]impl.Expr{"test 3": test(3), "action 4": act(4), "too deep": nested(impl.EStar, 40, act(0)), "too large": nested(impl.EStar, 200, act(0))} {
		refused("pattern: "+name, g, e, []impl.Expr{one, one, one, one, one}, []impl.Expr{one, one, one, one, one}, impl.ErrInvalid)
	}
	for _, bad := range badSigs {
		refused("signature", bad, one, nil, nil, impl.ErrInvalid)
		refused("signature", bad, act(0), []impl.Expr{act(0)}, nil, impl.ErrInvalid)
	}
	refused("an element of another signature", sig00, one, []impl.Expr{test(0)}, nil, impl.ErrInvalid)
	refused("an element of another signature", sig00, one, nil, []impl.Expr{act(0)}, impl.ErrInvalid)
	refused("invalid before no condition", g, act(0), []impl.Expr{act(0)}, []impl.Expr{act(2)}, impl.ErrInvalid)
	refused("no condition before missing elements", g, act(1), []impl.Expr{act(0)}, nil, impl.ErrState)
	large := mustExpr(t, g, balanced(100, "a0", " "))
	refused("missing elements before limits", g, tree(impl.EDot, tree(impl.EDot, act(0), act(0)), act(1)), nil, []impl.Expr{large}, impl.ErrRange)
	refused("no condition before limits", g, tree(impl.EDot, act(0), act(0)), []impl.Expr{large}, []impl.Expr{large}, impl.ErrState)
}

func TestFitExpr(t *testing.T) {
	rows := []struct {
		pattern, e string
		lists      string // none if nothing fits
	}{
		{"0", "0", "[] []"}, {"1", "1", "[] []"}, {"0", "1", ""}, {"1", "0", ""}, {"1", "~0", ""}, {"0", "a0", ""},
		{"t0", "t1", "[t1] []"}, {"t0", "0", "[0] []"}, {"t0", "~(t0 + 1)", "[~(t0 + 1)] []"}, {"t0", "a0", ""}, {"t0", "t0*", ""}, {"t0", "(t0 a0)", ""},
		{"a0", "t1", "[] [t1]"}, {"a0", "(a0 t0)*", "[] [(a0 t0)*]"}, {"a0", "0", "[] [0]"},
		{"t2", "t1", "[1; 1; t1] []"}, {"a3", "a1", "[] [1; 1; 1; a1]"}, {"(t1 a2)", "(t0 t1)", "[1; t0] [1; 1; t1]"},
		{"(t2 + (a0 + a3))", "(0 + (1 + a0*))", "[1; 1; 0] [1; 1; 1; a0*]"},
		{"(a0 + a1)", "(a1 + a0)", "[] [a1; a0]"}, {"(a0 + a1)", "(a1 a0)", ""}, {"(a0 a1)", "(a1 + a0)", ""}, {"(a0 + a1)", "a0", ""}, {"(a0 + a1)", "a0*", ""},
		{"(a0 + a0)", "(a1 + a1)", "[] [a1]"}, {"(a0 + a0)", "(a0 + a1)", ""}, {"(a0 + a0)", "((t0 a0) + (t0 a0))", "[] [(t0 a0)]"}, {"(a0 + a0)", "((t0 a0) + (t0 a1))", ""},
		{"(a0 + a0)", "((0 + 1) + (1 + 0))", ""}, {"(t0 + t0)", "((t0 1) + (t0 1))", "[(t0 1)] []"}, {"(t0 + t0)", "(t0 + t1)", ""}, {"(t0 + a0)", "(t0 + t0)", "[t0] [t0]"},
		{"(t0 a0)", "(a0 t0)", ""}, {"(t0 a0)", "((t0 a0) a0)", ""}, {"(a0 t0)", "(a0 t0)", "[t0] [a0]"},
		{"~t0", "~~t1", "[~t1] []"}, {"~t0", "t1", ""}, {"~~t0", "~~0", "[0] []"}, {"~~t0", "~t0", ""}, {"~1", "~1", "[] []"}, {"~1", "~0", ""},
		{"~(t0 + t1)", "~(~t1 + (t0 t0))", "[~t1; (t0 t0)] []"}, {"~(t0 + t1)", "~(t0 t1)", ""}, {"~(t0 + t0)", "~(t0 + t1)", ""},
		{"a0*", "a1**", "[] [a1*]"}, {"a0*", "a1", ""}, {"a0**", "a1*", ""}, {"(1 + (a0 a0*))", "(1 + ((a0 a1) (a0 a1)*))", "[] [(a0 a1)]"},
		{"(1 + (a0 a0*))", "(1 + ((a0 a1) (a1 a0)*))", ""}, {"(1 + (a0 a0*))", "(0 + (a0 a0*))", ""}, {"(a0 (a1 + a2))", "(a1 (t0 + 0))", "[] [a1; t0; 0]"},
		{"((t0 + t1) (t0 + t2))", "((t1 + 0) (t1 + ~t0))", "[t1; 0; ~t0] []"}, {"((t0 + t1) (t0 + t2))", "((t1 + 0) (t0 + ~t0))", ""},
	}
	for _, r := range rows {
		g := impl.Sig{Tests: 2, Actions: 2}
		tests, acts, code := impl.FitExpr(g, mustExpr(t, wholeSig, r.pattern), mustExpr(t, g, r.e))
		if r.lists == "" {
			want(t, r.pattern+" for "+r.e, list(tests, acts, code), list([]impl.Expr{}, []impl.Expr{}, impl.ErrNotFound))
			continue
		}
		want(t, r.pattern+" for "+r.e, list(listText(tests)+" "+listText(acts), code), list(r.lists, impl.OK))
	}
	largest := mustExpr(t, sig12, balanced(50, "(t0 + a1)", " "))
	for _, pattern := range []string{"a0", "(a0 a1)", balanced(50, "(t0 + a1)", " "), balanced(50, "(t2 + a2)", " ")} {
		e := mustExpr(t, wholeSig, pattern)
		tests, acts, code := impl.FitExpr(sig12, e, largest)
		want(t, "large "+short(pattern), list(filledText(e, tests, acts), code), list(textOf(largest), impl.OK))
	}
}

func TestFitExprErrors(t *testing.T) {
	g := impl.Sig{Tests: 2, Actions: 2}
	refused := func(name string, g impl.Sig, pattern, e impl.Expr) {
		t.Helper()
		tests, acts, code := impl.FitExpr(g, pattern, e)
		want(t, name, list(tests, acts, code), list([]impl.Expr{}, []impl.Expr{}, impl.ErrInvalid))
	}
	for name, e := range badExprs() {
		refused("expression: "+name, g, act(0), e)
		refused("expression that would not fit: "+name, g, zero, e)
		if !slices.Contains([]string{"test 2", "action 2", "fault in a first kid", "fault in a second kid"}, name) {
			refused("pattern: "+name, g, e, one)
		}
	}
	for _, e := range []impl.Expr{test(3), act(4), nested(impl.EStar, 40, act(0)), tree(impl.EDot, act(0), act(4))} {
		refused("pattern", g, e, one)
	}
	refused("an expression of another signature", sig00, act(0), act(0))
	refused("an expression of another signature", sig00, act(0), test(0))
	for _, bad := range badSigs {
		refused("signature", bad, one, one)
	}
}

// TestFitByTrial: there are lists just where Substitute makes the expression of
// the pattern, and they are these.
func TestFitByTrial(t *testing.T) {
	r := rand.New(rand.NewSource(61))
	fits, others := 0, 0
	for i := range 3000 {
		g := []impl.Sig{sig12, {Tests: 2, Actions: 1}, {Tests: 2}, {Actions: 2}}[i%4]
		pattern := randomExpr(r, []impl.Sig{{Tests: 2, Actions: 2}, wholeSig, {Tests: 3}}[i%3], 1+i%3)
		e := randomExpr(r, g, 1+i%4)
		if i%2 == 0 {
			tests, acts := partsFor(r, g, 2)
			e = instance(pattern, tests, acts)
			if i%4 == 0 && len(e.Kids) == 2 {
				e.Kids[r.Intn(2)] = randomExpr(r, g, 2)
			}
		}
		if impl.ExprSize(e) > 14 {
			continue
		}
		tests, acts, found := fitByTrial(pattern, e)
		gotTests, gotActs, code := impl.FitExpr(g, pattern, e)
		if !found {
			others++
			want(t, textOf(pattern)+" for "+textOf(e), list(gotTests, gotActs, code), list([]impl.Expr{}, []impl.Expr{}, impl.ErrNotFound))
			continue
		}
		fits++
		want(t, textOf(pattern)+" for "+textOf(e), list(listText(gotTests), listText(gotActs), code), list(listText(tests), listText(acts), impl.OK))
		back, code := impl.Substitute(g, pattern, gotTests, gotActs)
		want(t, "made of "+textOf(pattern), list(textOf(back), code), list(textOf(e), impl.OK))
	}
	if fits < 500 || others < 500 {
		t.Errorf("%d fit, %d do not: too few", fits, others)
	}
}

// partsFor returns full lists for all patterns.
func partsFor(r *rand.Rand, g impl.Sig, depth int) ([]impl.Expr, []impl.Expr) {
	tests, acts := []impl.Expr{}, []impl.Expr{}
	for range 3 {
		tests = append(tests, randomCondition(r, g, depth))
	}
	for range 4 {
		acts = append(acts, randomExpr(r, g, depth))
	}
	return tests, acts
}

// TestMadeOfPatterns: what is made of a pattern is its text with other texts in
// it, and fits; the lists that are found are those that have been put in.
func TestMadeOfPatterns(t *testing.T) {
	r := rand.New(rand.NewSource(62))
	made := 0
	for i := range 2000 {
		g := []impl.Sig{sig12, sig11, {Tests: 2}, sig00, sig34}[i%5]
		pattern := randomExpr(r, wholeSig, 1+i%5)
		tests, acts := partsFor(r, g, 1+i%3)
		e, code := impl.Substitute(g, pattern, tests, acts)
		if code == impl.ErrLimit {
			want(t, "limit of "+textOf(pattern), impl.ValidExpr(g, instance(pattern, tests, acts)), false)
			continue
		}
		made++
		want(t, "made of "+textOf(pattern), list(textOf(e), code), list(filledText(pattern, tests, acts), impl.OK))
		gotTests, gotActs, code := impl.FitExpr(g, pattern, e)
		want(t, "lists of "+textOf(pattern), list(len(gotTests), len(gotActs), code), list(fullLength("t", pattern), fullLength("a", pattern), impl.OK))
		for k, x := range gotTests {
			wanted := one
			if slices.Contains(namesIn(pattern, "t"), "t"+digit(int64(k))) {
				wanted = tests[k]
			}
			want(t, "test of "+textOf(pattern), textOf(x), textOf(wanted))
		}
		for k, x := range gotActs {
			wanted := one
			if slices.Contains(namesIn(pattern, "a"), "a"+digit(int64(k))) {
				wanted = acts[k]
			}
			want(t, "action of "+textOf(pattern), textOf(x), textOf(wanted))
		}
	}
	if made < 1500 {
		t.Errorf("only %d are made", made)
	}
}

func TestPaths(t *testing.T) {
	rows := []struct {
		e, path, by    string
		node, replaced string // of ReplaceAt, what is made or the name of the code
	}{
		{"a0", "", "t0", "a0", "t0"}, {"0", "", "(a0 a1)*", "0", "(a0 a1)*"},
		{"(a0 + t0)", "0", "1", "a0", "(1 + t0)"}, {"(a0 + t0)", "1", "a1*", "t0", "(a0 + a1*)"}, {"(a0 + t0)", "", "1", "(a0 + t0)", "1"},
		{"((a0 a1) (t0 0))", "0 1", "1", "a1", "((a0 1) (t0 0))"}, {"((a0 a1) (t0 0))", "1 0", "1", "t0", "((a0 a1) (1 0))"},
		{"(a0 a1)*", "0", "1", "(a0 a1)", "1*"}, {"(a0 a1)*", "0 0", "a1*", "a0", "(a1* a1)*"}, {"a0**", "0", "t0", "a0*", "t0*"},
		{"~t0", "", "a0", "~t0", "a0"}, {"~t0", "0", "(1 0)", "t0", "~(1 0)"}, {"~t0", "0", "a0", "t0", "state"}, {"~t0", "0", "1*", "t0", "state"},
		{"~(t0 + ~1)", "0 1", "a0", "~1", "state"}, {"~(t0 + ~1)", "0 1", "t0", "~1", "~(t0 + t0)"}, {"~(t0 + ~1)", "0 1 0", "t0", "1", "~(t0 + ~t0)"}, {"~(t0 + ~1)", "0 0", "(t0 a0)", "t0", "state"},
		{"~(t0 + ~1)", "0 1 0", "0*", "1", "state"}, {"~(t0 + ~1)", "0", "(a0 + 1)", "(t0 + ~1)", "state"}, {"~~t0", "0", "a0", "~t0", "state"}, {"~~t0", "0", "1", "~t0", "~1"},
		{"(a0 (t0 + ~t0))", "1 1", "a1", "~t0", "(a0 (t0 + a1))"}, {"(a0 (t0 + ~t0))", "1 1 0", "a1", "t0", "state"}, {"(a0 (t0 + ~t0))", "1 0", "a1", "t0", "(a0 (a1 + ~t0))"},
		{"(~t0 a0)*", "0 1", "a1*", "a0", "(~t0 a1*)*"}, {"(~t0 a0)*", "0 0 0", "a1", "t0", "state"}, {"(~t0 + ~t0)", "1", "a0", "~t0", "(~t0 + a0)"},
		{"a0", "0", "1", "range", "range"}, {"1", "0", "1", "range", "range"}, {"t0", "1", "1", "range", "range"}, {"(a0 + t0)", "2", "1", "range", "range"}, {"(a0 + t0)", "-1", "1", "range", "range"},
		{"a0*", "1", "1", "range", "range"}, {"~t0", "1", "1", "range", "range"}, {"(a0 + t0)", "0 0", "1", "range", "range"}, {"(a0 + t0)", "1 1", "1", "range", "range"},
		{"~t0", "0 0", "a0", "range", "range"}, {"~t0", "1", "a0", "range", "range"}, {"(a0 a1)", "9223372036854775807", "1", "range", "range"}, {"(a0 a1)", "-9223372036854775808", "1", "range", "range"},
	}
	g := impl.Sig{Tests: 2, Actions: 2}
	for _, r := range rows {
		e, by, path := mustExpr(t, g, r.e), mustExpr(t, g, r.by), pathOf(t, r.path)
		node, code := impl.SubtermAt(g, e, path)
		want(t, "node of "+r.e+" at "+r.path, textOrName(node, code), r.node)
		x, code := impl.ReplaceAt(g, e, path, by)
		want(t, r.e+" with "+r.by+" at "+r.path, textOrName(x, code), r.replaced)
	}
}

// textOrName is the text of a result, or the name of the code beside nothing.
func textOrName(e impl.Expr, code int64) string {
	if code == impl.OK {
		return textOf(e)
	}
	if e.Kind != 0 || e.Num != 0 || len(e.Kids) > 0 {
		return "not nothing: " + impl.CodeName(code)
	}
	return impl.CodeName(code)
}

// pathOf reads numbers, also such that belong to no path.
func pathOf(t *testing.T, text string) []int64 {
	t.Helper()
	path := []int64{}
	for _, part := range strings.Fields(text) {
		i, err := strconv.ParseInt(part, 10, 64)
		if err != nil {
			t.Fatal(err)
		}
		path = append(path, i)
	}
	return path
}

func TestReplaceAtLimits(t *testing.T) {
	sums, products := balanced(99, "t0", " + "), balanced(100, "a0", " ")
	rows := []struct {
		e    string
		path []int64
		by   string
		code int
	}{
		{"(" + sums + " 1)", []int64{1}, "~1", impl.OK}, {"(" + sums + " 1)", []int64{1}, "~~1", impl.ErrLimit}, {"(" + sums + " 1)", []int64{1}, "(1 0)", impl.ErrLimit},
		{"(" + sums + " 1)", []int64{0}, products, impl.ErrLimit}, {"(" + sums + " 1)", []int64{}, products, impl.OK}, {products, []int64{}, products + "*", impl.OK},
		{strings.Repeat("~", 39) + "1", slices.Repeat([]int64{0}, 39), "0", impl.OK}, {strings.Repeat("~", 39) + "1", slices.Repeat([]int64{0}, 39), "~0", impl.ErrLimit},
		{strings.Repeat("~", 39) + "1", slices.Repeat([]int64{0}, 39), "(a0 + 1)", impl.ErrState}, {strings.Repeat("~", 39) + "1", slices.Repeat([]int64{0}, 40), "(a0 + 1)", impl.ErrRange},
		{"a0" + strings.Repeat("*", 39), slices.Repeat([]int64{0}, 39), "a1", impl.OK}, {"a0" + strings.Repeat("*", 39), slices.Repeat([]int64{0}, 39), "(1 0)", impl.ErrLimit},
		{"a0" + strings.Repeat("*", 39), slices.Repeat([]int64{0}, 38), "(1 0)", impl.OK}, {"a0" + strings.Repeat("*", 39), slices.Repeat([]int64{0}, 900_000), "1", impl.ErrRange},
		{"~(" + sums + " t0)", []int64{0, 1}, "a0", impl.ErrState}, {"~(" + sums + " t0)", []int64{0, 1}, products, impl.ErrState}, {"~(" + sums + " t0)", []int64{0, 1}, "(t0 t0)", impl.ErrLimit},
	}
	for _, r := range rows {
		e, by := mustExpr(t, sig12, r.e), mustExpr(t, sig12, r.by)
		x, code := impl.ReplaceAt(sig12, e, r.path, by)
		want(t, short(r.e)+" with "+short(r.by), code, r.code)
		if r.code == impl.OK {
			want(t, short(r.e)+" with "+short(r.by), textOf(x), textOf(changedAt(e, r.path, by)))
		} else {
			want(t, "nothing", x, impl.Expr{})
		}
	}
	g := impl.Sig{Tests: 2, Actions: 2}
	for name, bad := range badExprs() {
		node, first := impl.SubtermAt(g, bad, []int64{5})
		whole, second := impl.SubtermAt(g, bad, nil)
		want(t, "node of "+name, list(node, first, whole, second), list(impl.Expr{}, impl.ErrInvalid, impl.Expr{}, impl.ErrInvalid))
		x, first := impl.ReplaceAt(g, bad, []int64{5}, one)
		y, second := impl.ReplaceAt(g, tree(impl.ENot, test(0)), []int64{5}, bad)
		z, third := impl.ReplaceAt(g, one, nil, bad)
		want(t, "replaced "+name, list(x, first, y, second, z, third), list(impl.Expr{}, impl.ErrInvalid, impl.Expr{}, impl.ErrInvalid, impl.Expr{}, impl.ErrInvalid))
	}
	for _, bad := range badSigs {
		_, first := impl.SubtermAt(bad, one, nil)
		_, second := impl.ReplaceAt(bad, one, nil, one)
		want(t, "bad signature", list(first, second), list(impl.ErrInvalid, impl.ErrInvalid))
	}
}

// TestPutBack: at each node, what is found there can be put away and back.
func TestPutBack(t *testing.T) {
	r := rand.New(rand.NewSource(63))
	put, refused := 0, 0
	for i := range 400 {
		g := []impl.Sig{sig12, sig11, {Tests: 2}, sig34}[i%4]
		e := randomExpr(r, g, 2+i%4)
		if i%4 == 1 {
			e = tree(impl.ESum, tree(impl.ENot, randomCondition(r, g, 4)), e)
		}
		if !impl.ValidExpr(g, e) {
			continue
		}
		for _, p := range placesOf(e, nil, false) {
			node, code := impl.SubtermAt(g, e, p.path)
			want(t, "node of "+textOf(e), list(textOf(node), code), list(textOf(p.node), impl.OK))
			by := randomExpr(r, g, 2)
			x, code := impl.ReplaceAt(g, e, p.path, by)
			if p.inNot && !impl.IsCondition(by) {
				refused++
				want(t, "below a negation in "+textOf(e), list(x, code), list(impl.Expr{}, impl.ErrState))
				continue
			}
			want(t, "replaced in "+textOf(e), list(textOf(x), code), list(textOf(changedAt(e, p.path, by)), impl.OK))
			again, code := impl.SubtermAt(g, x, p.path)
			want(t, "found again in "+textOf(x), list(textOf(again), code), list(textOf(by), impl.OK))
			back, code := impl.ReplaceAt(g, x, p.path, node)
			want(t, "put back in "+textOf(x), list(textOf(back), code), list(textOf(e), impl.OK))
			put++
		}
	}
	if put < 2000 || refused < 100 {
		t.Errorf("%d put, %d refused: too few", put, refused)
	}
}
