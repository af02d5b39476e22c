package tests

import (
	"math"
	"math/rand"
	"strings"
	"testing"

	"loop.example/g01101/impl"
)

func TestConstants(t *testing.T) {
	want(t, "codes", list(impl.OK, impl.ErrInvalid, impl.ErrRange, impl.ErrLimit, impl.ErrState,
		impl.ErrSyntax, impl.ErrNotFound, impl.ErrBudget, impl.ErrProof), "[0 1 2 3 4 5 6 7 8]")
	want(t, "kinds", list(impl.EZero, impl.EOne, impl.ETest, impl.EAct, impl.ENot, impl.ESum,
		impl.EDot, impl.EStar), "[1 2 3 4 5 6 7 8]")
	want(t, "limits", list(impl.MaxTests, impl.MaxActions, impl.MaxNodes, impl.MaxDepth, impl.MaxWord,
		impl.MaxWords, impl.MaxText), "[3 4 200 40 10 2000 4000]")
}

func TestCodeName(t *testing.T) {
	names := []string{"ok", "invalid", "range", "limit", "state", "syntax", "notfound", "budget", "proof"}
	for code, name := range names {
		want(t, "name", impl.CodeName(int64(code)), name)
	}
	for _, code := range []int64{-1, 9, 100, math.MinInt64, math.MaxInt64} {
		want(t, "no name", impl.CodeName(code), "")
	}
}

func TestValidSig(t *testing.T) {
	for tests := int64(-1); tests <= 4; tests++ {
		for actions := int64(-1); actions <= 5; actions++ {
			valid := 0 <= tests && tests <= 3 && 0 <= actions && actions <= 4
			g := impl.Sig{Tests: tests, Actions: actions}
			if impl.ValidSig(g) != valid {
				t.Errorf("ValidSig of %v is not %v", g, valid)
			}
		}
	}
	for _, g := range badSigs {
		want(t, "bad signature", impl.ValidSig(g), false)
	}
}

// badExprs are expressions that are not valid for 2 tests and 2 actions.
func badExprs() map[string]impl.Expr {
	a, c := act(0), test(0)
	bad := map[string]impl.Expr{
		"no kind":                {},
		"kind 9":                 leaf(9, 0),
		"kind -1":                leaf(-1, 0),
		"a great kind":           leaf(math.MaxInt64, 0),
		"zero with Num":          leaf(impl.EZero, 1),
		"one with Num":           leaf(impl.EOne, -1),
		"test -1":                test(-1),
		"test 2":                 test(2),
		"a least test":           test(math.MinInt64),
		"action -1":              act(-1),
		"action 2":               act(2),
		"a greatest action":      act(math.MaxInt64),
		"not with Num":           {Kind: impl.ENot, Num: 1, Kids: []impl.Expr{c}},
		"sum with Num":           {Kind: impl.ESum, Num: 1, Kids: []impl.Expr{a, c}},
		"product with Num":       {Kind: impl.EDot, Num: 1, Kids: []impl.Expr{a, c}},
		"star with Num":          {Kind: impl.EStar, Num: 1, Kids: []impl.Expr{a}},
		"not of an action":       tree(impl.ENot, a),
		"not of a star":          tree(impl.ENot, tree(impl.EStar, c)),
		"action deep in a not":   tree(impl.ENot, tree(impl.ESum, c, tree(impl.EDot, c, a))),
		"star deep in a not":     tree(impl.ENot, tree(impl.EDot, tree(impl.EStar, c), c)),
		"action in a not in not": tree(impl.ENot, tree(impl.ENot, a)),
		"fault in a first kid":   tree(impl.ESum, test(2), a),
		"fault in a second kid":  tree(impl.EDot, a, test(2)),
		"fault in a star":        tree(impl.EStar, leaf(0, 0)),
	}
	for kind := int64(1); kind <= 8; kind++ {
		for kids := range 4 {
			needed := []int{0, 0, 0, 0, 0, 1, 2, 2, 1}[kind]
			if kids != needed {
				bad["kids "+string('0'+rune(kind))+string('0'+rune(kids))] =
					impl.Expr{Kind: kind, Kids: []impl.Expr{c, c, c}[:kids]}
			}
		}
	}
	return bad
}

func TestValidExpr(t *testing.T) {
	g := impl.Sig{Tests: 2, Actions: 2}
	for name, e := range badExprs() {
		want(t, name, impl.ValidExpr(g, e), false)
		want(t, "text of "+name, impl.ExprText(g, e), "")
	}
	good := []impl.Expr{zero, one, test(0), test(1), act(0), act(1), tree(impl.ENot, zero),
		tree(impl.ENot, tree(impl.ESum, test(0), tree(impl.EDot, one, tree(impl.ENot, test(1))))),
		tree(impl.ESum, act(0), test(1)), tree(impl.EDot, test(1), act(1)),
		tree(impl.EStar, act(0)), tree(impl.EStar, test(0)),
		{Kind: impl.EOne, Kids: []impl.Expr{}}, {Kind: impl.EOne, Kids: make([]impl.Expr, 0, 3)}}
	for _, e := range good {
		if !impl.ValidExpr(g, e) {
			t.Errorf("%v is valid", e)
		}
		for _, bad := range badSigs {
			want(t, "bad signature", impl.ValidExpr(bad, e), false)
		}
	}
	want(t, "numbers and signatures", list(impl.ValidExpr(sig00, one), impl.ValidExpr(sig00, test(0)),
		impl.ValidExpr(sig00, act(0)), impl.ValidExpr(sig34, test(2)), impl.ValidExpr(sig34, act(3)),
		impl.ValidExpr(sig34, test(3)), impl.ValidExpr(sig34, act(4)), impl.ValidExpr(sig01, test(0))),
		"[true false false true true false false false]")
}

func TestExprLimits(t *testing.T) {
	flat := mustExpr(t, sig12, balanced(100, "a0", " + "))
	want(t, "sizes", list(impl.ExprSize(flat), impl.ValidExpr(sig12, nested(impl.EStar, 1, flat)),
		impl.ValidExpr(sig12, nested(impl.EStar, 2, flat))), "[199 true false]")
	two := tree(impl.EDot, mustExpr(t, sig12, balanced(50, "t0", " ")), mustExpr(t, sig12, balanced(50, "a1", " ")))
	want(t, "both kids count", list(impl.ValidExpr(sig12, two), impl.ValidExpr(sig12, tree(impl.ESum, two, act(0)))),
		"[true false]")
	want(t, "depths", list(impl.ValidExpr(sig12, nested(impl.EStar, 39, act(0))),
		impl.ValidExpr(sig12, nested(impl.EStar, 40, act(0))),
		impl.ValidExpr(sig12, nested(impl.ENot, 39, test(0))),
		impl.ValidExpr(sig12, nested(impl.ENot, 40, test(0)))), "[true false true false]")
	for _, deep := range []int{39, 40} {
		left, right := act(0), act(0)
		for range deep {
			left, right = tree(impl.ESum, left, act(0)), tree(impl.EDot, act(0), right)
		}
		want(t, "depth of kids", list(impl.ValidExpr(sig12, left), impl.ValidExpr(sig12, right)),
			list(deep == 39, deep == 39))
	}
}

func TestIsCondition(t *testing.T) {
	c := tree(impl.ESum, tree(impl.ENot, test(0)), tree(impl.EDot, one, zero))
	want(t, "conditions", list(impl.IsCondition(zero), impl.IsCondition(one), impl.IsCondition(test(0)),
		impl.IsCondition(c), impl.IsCondition(tree(impl.ENot, c))), "[true true true true true]")
	want(t, "others", list(impl.IsCondition(act(0)), impl.IsCondition(tree(impl.EStar, test(0))),
		impl.IsCondition(tree(impl.ESum, c, act(0))), impl.IsCondition(tree(impl.EDot, tree(impl.EStar, c), c)),
		impl.IsCondition(tree(impl.ENot, act(0))), impl.IsCondition(impl.Expr{}), impl.IsCondition(leaf(9, 0)),
		impl.IsCondition(leaf(-3, 0))), "[false false false false false false false false]")
	want(t, "only kinds count", list(impl.IsCondition(test(99)), impl.IsCondition(leaf(impl.EOne, 7)),
		impl.IsCondition(tree(impl.ENot)), impl.IsCondition(tree(impl.ETest, c, c)),
		impl.IsCondition(tree(impl.ETest, c, act(0))), impl.IsCondition(nested(impl.ENot, 100, test(0))),
		impl.IsCondition(nested(impl.ENot, 100, act(0)))), "[true true true true false true false]")
}

func TestSameExprAndSize(t *testing.T) {
	e := tree(impl.EDot, tree(impl.EStar, test(0)), tree(impl.ESum, act(0), one))
	others := []impl.Expr{
		{}, one, tree(impl.ESum, e.Kids...), {Kind: impl.EDot, Num: 1, Kids: e.Kids},
		tree(impl.EDot, e.Kids[1], e.Kids[0]), tree(impl.EDot, e.Kids[0]), tree(impl.EDot),
		tree(impl.EDot, e.Kids[0], e.Kids[1], one),
		tree(impl.EDot, tree(impl.EStar, test(1)), e.Kids[1]),
		tree(impl.EDot, e.Kids[0], tree(impl.ESum, act(0), zero)),
	}
	for _, o := range others {
		if impl.SameExpr(e, o) || impl.SameExpr(o, e) {
			t.Errorf("%v is not the same as %v", e, o)
		}
		want(t, "the same as itself", impl.SameExpr(o, tree(o.Kind, o.Kids...)), o.Num == 0)
	}
	empty := impl.Expr{Kind: 77, Num: -5, Kids: []impl.Expr{}}
	want(t, "invalid ones", list(impl.SameExpr(empty, leaf(77, -5)), impl.SameExpr(leaf(77, -5), empty),
		impl.SameExpr(empty, leaf(77, 5))), "[true true false]")
	want(t, "sizes", list(impl.ExprSize(e), impl.ExprSize(impl.Expr{}), impl.ExprSize(tree(impl.EOne, one, one, e)),
		impl.ExprSize(nested(impl.EStar, 500, act(9)))), "[6 1 9 501]")
}

func TestExprText(t *testing.T) {
	rows := []struct {
		text string
		e    impl.Expr
	}{
		{"0", zero}, {"1", one}, {"t2", test(2)}, {"a3", act(3)}, {"~t0", tree(impl.ENot, test(0))},
		{"~~0", nested(impl.ENot, 2, zero)}, {"(a0 + 1)", tree(impl.ESum, act(0), one)},
		{"(a0 1)", tree(impl.EDot, act(0), one)}, {"a1*", tree(impl.EStar, act(1))},
		{"a1**", nested(impl.EStar, 2, act(1))}, {"~t0*", tree(impl.EStar, tree(impl.ENot, test(0)))},
		{"~(t0 + 1)*", tree(impl.EStar, tree(impl.ENot, tree(impl.ESum, test(0), one)))},
		{"(~t0* a1)", tree(impl.EDot, tree(impl.EStar, tree(impl.ENot, test(0))), act(1))},
		{"((a0 a1)* + (0 (t1 + a2)))", tree(impl.ESum, tree(impl.EStar, tree(impl.EDot, act(0), act(1))),
			tree(impl.EDot, zero, tree(impl.ESum, test(1), act(2))))},
	}
	for _, r := range rows {
		want(t, "text", impl.ExprText(sig34, r.e), r.text)
		got, code := impl.ReadExpr(sig34, r.text)
		want(t, "read "+r.text, list(got, code), list(r.e, impl.OK))
	}
	for _, g := range badSigs {
		want(t, "text for a bad signature", impl.ExprText(g, one), "")
	}
	r := rand.New(rand.NewSource(1))
	for range 500 {
		e := randomExpr(r, sig34, 5)
		text := impl.ExprText(sig34, e)
		got, code := impl.ReadExpr(sig34, text)
		if code != impl.OK || !impl.SameExpr(got, e) {
			t.Fatalf("%s is read as %v, %d", text, got, code)
		}
	}
}

// badTexts are no texts of expressions with 2 tests and 2 actions.
var badTexts = []string{
	"", " ", "2", "9", "+", "*", "~", "(", ")", "()", "t", "a", "x", "T0", "A0",
	"t2", "a2", "t-1", "a+1", "t00", "t01", "a01", "t 0", "t10", "a11",
	"t18446744073709551616", "a18446744073709551617", "t4294967296", "a0x0",
	"00", "01", "11", "1 ", " 1", "1\n", "1\x00", "1)", "1 1", "1 + 1", "a0a1", "a0 ", "a0*1", "a0* ",
	"(1)", "(1 )", "(1 1", "(1 1) ", "(1 1))", "((1 1)", "( 1 1)", "(1  1)", "(1 1 )", "(1 1 1)",
	"(1+1)", "(1 +1)", "(1+ 1)", "(1 + 1", "(1 + )", "( + 1)", "(1 +  1)", "(1  + 1)", "(1 + 1 + 1)", "(1\t1)",
	"(1 + 1)~", "(1 * 1)", "*1", "~*", "~*1", "1~", "1*~", "a0 *", "~ 1",
	"~a0", "~a0*", "~(a0 + 1)", "~(t0* 1)", "~(1 (1 1*))", "~~a1", "~(1 ~a0)", "(1, 1)", "(1;1)", "\u00a01", "１",
}

func TestReadExprErrors(t *testing.T) {
	g := impl.Sig{Tests: 2, Actions: 2}
	for _, text := range badTexts {
		e, code := impl.ReadExpr(g, text)
		want(t, "read "+text, list(e, code), list(impl.Expr{}, impl.ErrSyntax))
	}
	for _, bad := range badSigs {
		for _, text := range []string{"1", "", strings.Repeat("~", 5000)} {
			e, code := impl.ReadExpr(bad, text)
			want(t, "bad signature", list(e, code), list(impl.Expr{}, impl.ErrInvalid))
		}
	}
	for length, wanted := range map[int]int{3999: impl.ErrSyntax, 4000: impl.ErrSyntax, 4001: impl.ErrRange, 9000: impl.ErrRange} {
		for _, part := range []string{"~", "*", "(", "1", "x"} {
			e, code := impl.ReadExpr(g, strings.Repeat(part, length-1)+"1")
			want(t, "long text of "+part, list(e, code), list(impl.Expr{}, wanted))
		}
	}
	rows := map[string]int{
		strings.Repeat("~", 39) + "1":                 impl.OK,
		strings.Repeat("~", 40) + "1":                 impl.ErrSyntax,
		"a0" + strings.Repeat("*", 39):                impl.OK,
		"a0" + strings.Repeat("*", 40):                impl.ErrSyntax,
		balanced(100, "a0", " "):                      impl.OK,
		balanced(100, "a0", " ") + "*":                impl.OK,
		balanced(100, "a0", " ") + "**":               impl.ErrSyntax,
		rightChain(repeat("a0", 40), " "):             impl.OK,
		rightChain(repeat("a0", 41), " "):             impl.ErrSyntax,
		rightChain(repeat("a0", 600), " "):            impl.ErrSyntax,
		strings.Repeat("(", 3000) + "1":               impl.ErrSyntax,
		"(t0 + (t1 + (a0 + (a1 + (0 + ~(1 t1)))))*)*": impl.OK,
	}
	for text, wanted := range rows {
		_, code := impl.ReadExpr(g, text)
		want(t, "read "+short(text), code, wanted)
	}
}

func TestTruthAt(t *testing.T) {
	rows := map[string]string{ // what holds at the atoms 0 to 7
		"0": "--------", "1": "++++++++", "t0": "-+-+-+-+", "t1": "--++--++", "t2": "----++++",
		"~t1": "++--++--", "(t0 + t2)": "-+-+++++", "(t0 t1)": "---+---+", "~(t0 t1)": "+++-+++-",
		"~(t0 + ~t2)": "----+-+-", "((t0 + ~t0) (t1 + 0))": "--++--++",
	}
	for text, row := range rows {
		for atom := range int64(8) {
			got, code := impl.TruthAt(sig34, mustExpr(t, sig34, text), atom)
			want(t, "truth of "+text, list(got, code), list(row[atom] == '+', impl.OK))
		}
	}
	errors := []struct {
		g     impl.Sig
		e     impl.Expr
		atom  int64
		wants int
	}{
		{sig34, test(3), 0, impl.ErrInvalid}, {sig34, tree(impl.ENot, act(0)), 9, impl.ErrInvalid},
		{badSigs[0], one, 0, impl.ErrInvalid}, {badSigs[4], one, 0, impl.ErrInvalid},
		{sig34, act(0), 0, impl.ErrState}, {sig34, act(0), 8, impl.ErrState},
		{sig34, tree(impl.EStar, test(0)), 0, impl.ErrState}, {sig34, tree(impl.ESum, test(0), act(3)), -1, impl.ErrState},
		{sig34, one, 8, impl.ErrRange}, {sig34, one, -1, impl.ErrRange}, {sig34, one, math.MaxInt64, impl.ErrRange},
		{sig34, one, math.MinInt64, impl.ErrRange}, {sig11, one, 2, impl.ErrRange}, {sig01, one, 1, impl.ErrRange},
		{sig34, one, 7, impl.OK}, {sig01, one, 0, impl.OK},
	}
	for _, x := range errors {
		got, code := impl.TruthAt(x.g, x.e, x.atom)
		want(t, "code", list(got, code), list(x.wants == impl.OK, x.wants))
	}
}

func TestReverseExpr(t *testing.T) {
	rows := map[string]string{
		"0": "0", "1": "1", "t1": "t1", "a1": "a1", "~t0": "~t0", "a0*": "a0*", "(a0 a1)": "(a1 a0)",
		"(a0 + a1)": "(a0 + a1)", "(a0 (a1 t0))": "((t0 a1) a0)", "~(t0 ~(t1 1))": "~(~(1 t1) t0)",
		"((a0 a1)* + (t0 a0))*": "((a1 a0)* + (a0 t0))*", "(~t0* a1)": "(a1 ~t0*)",
	}
	for text, reversed := range rows {
		e, code := impl.ReverseExpr(sig34, mustExpr(t, sig34, text))
		want(t, "reversed "+text, list(impl.ExprText(sig34, e), code), list(reversed, impl.OK))
	}
	for name, e := range badExprs() {
		got, code := impl.ReverseExpr(impl.Sig{Tests: 2, Actions: 2}, e)
		want(t, name, list(got, code), list(impl.Expr{}, impl.ErrInvalid))
	}
	_, code := impl.ReverseExpr(badSigs[2], one)
	want(t, "bad signature", code, impl.ErrInvalid)
}

func TestReplaceActions(t *testing.T) {
	rows := []struct{ text, by0, by1, result string }{
		{"a0", "t0", "a0", "t0"}, {"a1", "t0", "a0", "a0"}, {"(a0 a1)", "a1", "a0", "(a1 a0)"},
		{"((a0 + t0)* ~(t0 1))", "(a0 a1)", "0", "(((a0 a1) + t0)* ~(t0 1))"},
		{"(a1* + (a1 a0))", "1", "~t0", "(~t0* + (~t0 1))"}, {"~t0", "0", "0", "~t0"}, {"1", "0", "0", "1"},
	}
	for _, r := range rows {
		by := []impl.Expr{mustExpr(t, sig12, r.by0), mustExpr(t, sig12, r.by1)}
		e, code := impl.ReplaceActions(sig12, mustExpr(t, sig12, r.text), by)
		want(t, "replaced in "+r.text, list(impl.ExprText(sig12, e), code), list(r.result, impl.OK))
	}
	e, code := impl.ReplaceActions(impl.Sig{Tests: 1}, test(0), nil)
	want(t, "no actions", list(e, code), list(test(0), impl.OK))
}

func TestReplaceActionsErrors(t *testing.T) {
	half := mustExpr(t, sig12, balanced(50, "a0", " "))
	deep := nested(impl.EStar, 20, act(0))
	rows := []struct {
		name  string
		g     impl.Sig
		e     impl.Expr
		by    []impl.Expr
		wants int
	}{
		{"bad signature", badSigs[3], one, []impl.Expr{one}, impl.ErrInvalid},
		{"bad expression", sig12, act(2), []impl.Expr{one, one}, impl.ErrInvalid},
		{"bad first element", sig12, act(0), []impl.Expr{act(2), one}, impl.ErrInvalid},
		{"bad element that is not used", sig12, act(0), []impl.Expr{one, leaf(9, 0)}, impl.ErrInvalid},
		{"bad expression, too few", sig12, act(2), nil, impl.ErrInvalid},
		{"bad element, too many", sig12, act(0), []impl.Expr{one, one, leaf(0, 0)}, impl.ErrInvalid},
		{"none", sig12, act(0), nil, impl.ErrRange},
		{"one too few", sig12, act(0), []impl.Expr{one}, impl.ErrRange},
		{"one too many", sig12, act(0), []impl.Expr{one, one, one}, impl.ErrRange},
		{"one for no actions", sig00, one, []impl.Expr{one}, impl.ErrRange},
		{"range before limit", sig12, half, []impl.Expr{half}, impl.ErrRange},
		{"199 nodes", sig12, tree(impl.ESum, act(0), act(1)), []impl.Expr{half, half}, impl.OK},
		{"200 nodes", sig12, tree(impl.EStar, tree(impl.ESum, act(0), act(1))), []impl.Expr{half, half}, impl.OK},
		{"201 nodes", sig12, nested(impl.EStar, 2, tree(impl.ESum, act(0), act(1))), []impl.Expr{half, half}, impl.ErrLimit},
		{"many nodes", sig12, half, []impl.Expr{half, one}, impl.ErrLimit},
		{"many nodes that are not used", sig12, half, []impl.Expr{one, half}, impl.OK},
		{"depth 40", sig12, nested(impl.EStar, 19, act(1)), []impl.Expr{one, deep}, impl.OK},
		{"depth 41", sig12, nested(impl.EStar, 20, act(1)), []impl.Expr{one, deep}, impl.ErrLimit},
	}
	for _, r := range rows {
		e, code := impl.ReplaceActions(r.g, r.e, r.by)
		want(t, r.name, code, r.wants)
		if code != impl.OK {
			want(t, r.name, e, impl.Expr{})
		} else if !impl.ValidExpr(r.g, e) {
			t.Errorf("%s: the result is not valid", r.name)
		}
	}
}
