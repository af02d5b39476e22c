package tests

import (
	"math/rand"
	"slices"
	"strings"
	"testing"

	"loop.example/g01101/impl"
)

// This file tests the steps that are found: promises 9 and 10.

func TestStepsFrom(t *testing.T) {
	rows := []struct {
		e     string
		steps string // without the lists, where a "<" stands for Back
	}{
		{"0", "2< 3< 5< 6< 13< 17< 21<"}, {"1", "2< 3< 5< 6< 13< 17< 20<"}, {"t0", "2< 3< 5< 6< 13< 17<"}, {"a0", "2< 3< 5< 6<"},
		{"~0", "2< 3< 5< 6< 13< 17< 20 | 2<0 3<0 5<0 6<0 13<0 17<0 21<0"}, {"~1", "2< 3< 5< 6< 13< 17< 21 | 2<0 3<0 5<0 6<0 13<0 17<0 20<0"},
		{"a0*", "2< 3< 5< 6< 11< 12< | 2<0 3<0 5<0 6<0"}, {"(a0 + a1)", "1 1< 2< 3< 5< 6< | 2<0 3<0 5<0 6<0 | 2<1 3<1 5<1 6<1"},
		{"(a0 a0)", "2< 3< 5< 6< | 2<0 3<0 5<0 6<0 | 2<1 3<1 5<1 6<1"}, {"(a0 + a0)", "1 1< 2< 3 3< 5< 6< | 2<0 3<0 5<0 6<0 | 2<1 3<1 5<1 6<1"},
		{"(1 + (a0 a0*))", "1 1< 2< 3< 5< 6< 11 | 2<0 3<0 5<0 6<0 13<0 17<0 20<0 | 2<1 3<1 5<1 6<1 | 2<10 3<10 5<10 6<10 | 2<11 3<11 5<11 6<11 11<11 12<11 | 2<110 3<110 5<110 6<110"},
		{"(t0 ~t0)", "2< 3< 5< 6< 13< 14 14< 16 17< | 2<0 3<0 5<0 6<0 13<0 17<0 | 2<1 3<1 5<1 6<1 13<1 17<1 | 2<10 3<10 5<10 6<10 13<10 17<10"},
	}
	for _, r := range rows {
		steps, code := impl.StepsFrom(sig12, mustExpr(t, sig12, r.e))
		texts, place := []string{}, []int64{}
		for _, s := range steps {
			if !slices.Equal(s.Path, place) {
				texts, place = append(texts, "|"), s.Path
			}
			texts = append(texts, digit(s.Use)+map[bool]string{true: "<"}[s.Back]+strings.Join(numbersText(s.Path), ""))
		}
		want(t, "steps from "+r.e, list(strings.Join(texts, " "), code), list(r.steps, impl.OK))
	}
	lines := []struct{ e, text string }{
		{"(t0 (a0 + 0))", "axiom 7 > - [] [t0; a0; 0]|axiom 2 < - [] [(t0 (a0 + 0))]|axiom 1 > 1 [] [a0; 0]|axiom 1 < 1 [] [0; a0]|axiom 2 > 1 [] [a0]|axiom 13 < 0 [t0] []|axiom 17 < 0 [t0] []"},
		{"((t0 + 0) (t0 + ~t0))", "axiom 23 > - [t0; 0; ~t0] []|axiom 14 > - [(t0 + 0); (t0 + ~t0)] []|axiom 14 < - [(t0 + ~t0); (t0 + 0)] []|axiom 15 > 1 [t0] []|axiom 7 > - [] [(t0 + 0); t0; ~t0]|axiom 8 > - [] [t0; 0; (t0 + ~t0)]"},
		{"(a0 + (a1 + 1))", "axiom 0 > - [] [a0; a1; 1]"}, {"((a0 + a1) + 1)", "axiom 0 < - [] [a0; a1; 1]"}, {"~(t0 + 1)", "axiom 18 > - [t0; 1] []|axiom 22 > 0 [t0] []"}, {"(~t0 ~1)", "axiom 18 < - [t0; 1] []"},
		{"~(t0 1)", "axiom 19 > - [t0; 1] []"}, {"(~t0 + ~1)", "axiom 19 < - [t0; 1] []"}, {"(0 a0)", "axiom 9 > - [] [a0]"}, {"(a0 0)", "axiom 10 > - [] [a0]"}, {"(1 + (a0* a0))", "axiom 12 > - [] [a0]"},
		{"((a0 a1) + (a0 1))", "axiom 7 < - [] [a0; a1; 1]"}, {"((a0 1) + (a1 1))", "axiom 8 < - [] [a0; a1; 1]"}, {"((a0 1) 0)", "axiom 4 < - [] [a0; 1; 0]"}, {"~~t0*", "axiom 17 > 0 [t0] []"}, {"(t0 + (0 1))", "axiom 23 < - [t0; 0; 1] []"},
	}
	for _, r := range lines {
		steps, _ := impl.StepsFrom(sig12, mustExpr(t, sig12, r.e))
		for _, line := range strings.Split(r.text, "|") {
			want(t, "a step from "+r.e, strings.Count("\n"+stepsText(steps), "\n"+line+"\n"), 1)
		}
	}
}

// TestStepsFromLimits: how many steps there may be, and which ones are left out
// because of what they make.
func TestStepsFromLimits(t *testing.T) {
	rows := []struct {
		e     string
		steps int // -1 for ErrLimit
	}{
		{balanced(34, "a0", " "), 300}, {balanced(20, "t0", " "), -1}, {balanced(20, "t0", " + "), -1}, {balanced(26, "a0", " + ") + "*", 299}, {balanced(35, "a0", " "), -1},
		{balanced(100, "a0", " "), 98}, {balanced(100, "a0", " ") + "*", 98}, {balanced(99, "a0", " ") + "*", -1}, {strings.Repeat("~", 39) + "1", 39}, {"a0" + strings.Repeat("*", 39), 0},
	}
	for _, r := range rows {
		e := mustExpr(t, sig12, r.e)
		steps, code := impl.StepsFrom(sig12, e)
		if r.steps < 0 {
			want(t, "steps from "+short(r.e), list(steps, code), list([]impl.ProofStep{}, impl.ErrLimit))
			continue
		}
		want(t, "steps from "+short(r.e), list(len(steps), code), list(r.steps, impl.OK))
		want(t, "steps from "+short(r.e), stepsText(steps), stepsText(stepsByTable(sig12, e)))
	}
	want(t, "one step too many", len(stepsByTable(sig12, mustExpr(t, sig12, balanced(20, "t0", " ")))), 301)
	g := impl.Sig{Tests: 2, Actions: 2}
	for name, e := range badExprs() {
		steps, code := impl.StepsFrom(g, e)
		want(t, name, list(steps, code), list([]impl.ProofStep{}, impl.ErrInvalid))
	}
	for _, bad := range badSigs {
		steps, code := impl.StepsFrom(bad, one)
		want(t, "signature", list(steps, code), list([]impl.ProofStep{}, impl.ErrInvalid))
	}
}

// TestStepsForthAndBack: the steps are those of the table, in its order; each of
// them can be made, keeps the words, and leads back.
func TestStepsForthAndBack(t *testing.T) {
	r := rand.New(rand.NewSource(81))
	found, limits, compared := 0, 0, 0
	for i := range 250 {
		g := []impl.Sig{sig12, sig11, {Tests: 2}, sig00, sig34}[i%5]
		e := randomExpr(r, g, 1+i%5)
		switch i % 8 {
		case 0:
			e = randomCondition(r, g, 4)
		case 1:
			e = randomExpr(r, g, 8)
		}
		if !impl.ValidExpr(g, e) {
			continue
		}
		expected := stepsByTable(g, e)
		steps, code := impl.StepsFrom(g, e)
		if len(expected) > 300 {
			limits++
			want(t, "steps from "+textOf(e), list(steps, code), list([]impl.ProofStep{}, impl.ErrLimit))
			continue
		}
		want(t, "steps from "+textOf(e), list(stepsText(steps), code), list(stepsText(expected), impl.OK))
		for n, s := range steps {
			x, code := impl.ApplyStep(impl.Proof{Sig: g}, 0, e, s)
			want(t, textOf(e)+" by "+stepText(s), list(textOf(x), code), list(textOf(stepped(impl.Axioms(), e, s)), impl.OK))
			s.Back = !s.Back
			back, code := impl.ApplyStep(impl.Proof{Sig: g}, 0, x, s)
			want(t, textOf(x)+" by "+stepText(s), list(textOf(back), code), list(textOf(e), impl.OK))
			found++
			if n%7 == i%7 {
				if same, code := impl.EqualExprs(g, e, x); code == impl.OK {
					compared++
					want(t, textOf(e)+" = "+textOf(x), same, true)
				}
			}
		}
	}
	if found < 5000 || limits < 5 || compared < 500 {
		t.Errorf("%d steps, %d limits, %d compared: too few", found, limits, compared)
	}
}

// search compares a search with the table; what is found leads to the other side.
func search(t *testing.T, g impl.Sig, q impl.Equation, depth int) ([]impl.ProofStep, int64) {
	t.Helper()
	steps, code := impl.SearchProof(g, q, int64(depth))
	expected, _, second := searchByTable(g, q, depth, 200)
	want(t, "search for "+short(textOf(q.Left)+" = "+textOf(q.Right)), list(stepsText(steps), code), list(stepsText(expected), second))
	if code != impl.OK {
		want(t, "no steps", steps, []impl.ProofStep{})
		return nil, code
	}
	p := impl.Proof{Sig: g, Claims: []impl.Claim{{Left: q.Left, Right: q.Right, Rule: impl.ClSteps, Steps: steps}}}
	count, second64 := impl.CheckProof(p)
	want(t, "proof by search", list(count, second64), list(1, impl.OK))
	return steps, code
}

func TestSearchProof(t *testing.T) {
	rows := []struct {
		g     impl.Sig
		q     string
		depth int
		steps string // or the name of the code
	}{
		{sig01, "(1 a0) = (a0 1)", 2, "axiom 5 > - [] [a0]|axiom 6 < - [] [a0]"}, {sig01, "(1 a0) = (a0 1)", 1, "notfound"}, {sig01, "(1 a0) = (a0 1)", 4, "axiom 5 > - [] [a0]|axiom 6 < - [] [a0]"},
		{sig01, "a0 = a0", 0, ""}, {sig01, "a0 = a0", 4, ""}, {sig01, "a0 = (a0 + 0)", 0, "notfound"}, {sig01, "a0 = (a0 + 0)", 1, "axiom 2 < - [] [a0]"}, {sig01, "(a0 + 0) = a0", 1, "axiom 2 > - [] [a0]"},
		{sig01, "a0 = a0*", 1, "notfound"}, {sig01, "a0 = a0*", 4, "budget"}, {sig12, "(a0 + a1) = (a1 + a0)", 1, "axiom 1 > - [] [a0; a1]"}, {sig12, "(0 + a0) = a0", 2, "axiom 1 > - [] [0; a0]|axiom 2 > - [] [a0]"},
		{sig12, "(0 + a0) = a0", 1, "notfound"}, {sig11, "~~~t0 = ~t0", 1, "axiom 17 > - [~t0] []"}, {sig11, "~(t0 + ~t0) = 0", 2, "budget"}, {sig00, "(~1 + 0) = 0", 2, "axiom 2 > - [] [~1]|axiom 21 > - [] []"}, {sig00, "1 = 0", 4, "budget"}, {sig00, "1 = 0", 0, "notfound"},
		{sig11, "(t0 ~t0)* = 0*", 1, "axiom 16 > 0 [t0] []"}, {sig11, "0 = (t0 ~t0)", 1, "notfound"},
	}
	for _, r := range rows {
		steps, code := search(t, r.g, mustEquation(t, r.g, r.q), r.depth)
		got := strings.ReplaceAll(strings.TrimSuffix(stepsText(steps), "\n"), "\n", "|")
		if code != impl.OK {
			got = impl.CodeName(code)
		}
		want(t, r.q, got, r.steps)
	}
}

// narrow is an expression that is 40 deep at each leaf, so that nothing can grow.
func narrow(kinds ...string) string {
	text := rightPairs(kinds)
	return text + strings.Repeat("*", 40-len(kinds)/2)
}

// rightPairs is a flat sum of eight texts.
func rightPairs(leaves []string) string {
	for len(leaves) > 1 {
		pairs := []string{}
		for i := 0; i < len(leaves); i += 2 {
			pairs = append(pairs, "("+leaves[i]+" + "+leaves[i+1]+")")
		}
		leaves = pairs
	}
	return leaves[0]
}

// TestSearchDepth: nothing but exchanges can be done, so that it is plain how
// many steps are needed.
func TestSearchDepth(t *testing.T) {
	leaves := []string{"a0", "a1", "a2", "a3", "t0", "t1", "t2", "a0"}
	left := narrow(leaves...)
	rows := [][]string{
		leaves, {"a1", "a0", "a2", "a3", "t0", "t1", "t2", "a0"}, {"a1", "a0", "a3", "a2", "t0", "t1", "t2", "a0"}, {"a1", "a0", "a3", "a2", "t1", "t0", "t2", "a0"},
		{"a1", "a0", "a3", "a2", "t1", "t0", "a0", "t2"}, {"t1", "t0", "a0", "t2", "a1", "a0", "a3", "a2"},
	}
	for needed, right := range rows {
		q := mustEquation(t, sig34, left+" = "+narrow(right...))
		for depth := range 5 {
			steps, code := search(t, sig34, q, depth)
			if depth < needed {
				want(t, "too few steps", code, impl.ErrNotFound)
			} else {
				want(t, "steps", list(len(steps), code), list(needed, impl.OK))
			}
		}
	}
	for _, few := range []string{"a0" + strings.Repeat("*", 39), "(a0 + a1)" + strings.Repeat("*", 38), "(t0 t1)" + strings.Repeat("*", 38), "((a0 + a1) (a0 a1))" + strings.Repeat("*", 37)} {
		_, code := search(t, sig34, mustEquation(t, sig34, few+" = 1"), 4)
		want(t, "all have been looked at before so many steps", code, impl.ErrNotFound)
	}
	_, texts, code := searchByTable(sig34, mustEquation(t, sig34, left+" = "+narrow(rows[5]...)), 4, 200)
	want(t, "all that can be come to", list(len(texts), code), list(1+7+21+35+35, impl.ErrNotFound))
}

// TestSearchLimits: a list that has as many expressions as it may have, and one
// more; and expressions with too many steps, which end a search as soon as they
// are looked at.
func TestSearchLimits(t *testing.T) {
	for _, left := range []string{"a0", "(1 + a0*)", "(t0 (a0 + 1))", "~(t0 + 0)"} {
		e := mustExpr(t, sig12, left)
		_, texts, code := searchByTable(sig12, impl.Equation{Left: e, Right: act(1)}, 4, 230)
		want(t, "many expressions", list(len(texts), code), list(230, impl.ErrBudget))
		for at, wanted := range map[int]int{0: impl.OK, 1: impl.OK, 100: impl.OK, 198: impl.OK, 199: impl.OK, 200: impl.ErrBudget, 201: impl.ErrBudget, 229: impl.ErrBudget} {
			_, code := search(t, sig12, impl.Equation{Left: e, Right: mustExpr(t, sig12, texts[at])}, 4)
			want(t, "the place "+digit(int64(at))+" of the list from "+left, code, wanted)
		}
	}
	many := balanced(20, "t0", " ")
	rows := []struct {
		name, q string
		depth   int
		code    int
	}{
		{"too many steps", many + " = 1", 1, impl.ErrLimit}, {"too many steps, not looked at", many + " = 1", 0, impl.ErrNotFound}, {"too many steps, both sides are equal", many + " = " + many, 4, impl.OK},
		{"the first step leads to it", many + " = (" + many + " + 0)", 1, impl.ErrLimit}, {"300 steps", balanced(34, "a0", " ") + " = (" + balanced(34, "a0", " ") + " + 0)", 1, impl.OK},
		{"300 steps, and a list that is too long", balanced(34, "a0", " ") + " = 1", 1, impl.ErrBudget},
		{"too many steps behind the first one", laterLimit + " = 1", 2, impl.ErrLimit}, {"too many steps behind the first one, not looked at", laterLimit + " = 1", 1, impl.ErrNotFound},
	}
	for _, r := range rows {
		_, code := search(t, sig12, mustEquation(t, sig12, r.q), r.depth)
		want(t, r.name, code, r.code)
	}
}

// laterLimit has 300 steps, which lead to fewer than 200 expressions; and from
// the first one of these there are 301 steps.
var laterLimit = strings.ReplaceAll("(x + (x + (((((x + x) + (x + x)) + ((x x) + (x (x + x)))) + (((x + x) + (x (x x))) + ((x x) + (x + (x + x)))))"+
	" + ((((x + x) + (x + x)) + ((x + x) + (x (x x)))) + (((x x) (x + (x + x))) + ((x + x) (x + (x + x))))))))*", "x", "(0 0)*")

func TestSearchErrors(t *testing.T) {
	g := impl.Sig{Tests: 2, Actions: 2}
	refused := func(name string, g impl.Sig, q impl.Equation, depth int64, code int) {
		t.Helper()
		steps, got := impl.SearchProof(g, q, depth)
		want(t, name, list(steps, got), list([]impl.ProofStep{}, code))
	}
	for name, e := range badExprs() {
		for _, q := range []impl.Equation{{Left: e, Right: one}, {Left: one, Right: e}, {Left: e, Right: e}} {
			for _, depth := range []int64{0, 4, -1, 5} {
				refused(name, g, q, depth, impl.ErrInvalid)
			}
		}
	}
	for _, bad := range badSigs {
		refused("signature", bad, impl.Equation{Left: one, Right: one}, 9, impl.ErrInvalid)
	}
	same, many := impl.Equation{Left: one, Right: one}, mustExpr(t, g, balanced(20, "t0", " "))
	for _, depth := range []int64{-1 << 63, -1, 5, 6, 1<<63 - 1} {
		refused("depth", g, same, depth, impl.ErrRange)
		refused("depth before limits", g, impl.Equation{Left: many, Right: one}, depth, impl.ErrRange)
	}
}

// TestRandomSearch: what some steps have made is found again by as many steps,
// or fewer.
func TestRandomSearch(t *testing.T) {
	r := rand.New(rand.NewSource(82))
	codes := map[int64]int{}
	for i := range 80 {
		g := []impl.Sig{sig12, sig11, {Tests: 2}, sig00}[i%4]
		e := randomExpr(r, g, 1+i%3)
		x := e
		for range r.Intn(3) {
			steps := stepsByTable(g, x)
			x = stepped(impl.Axioms(), x, steps[r.Intn(len(steps))])
		}
		if i%9 == 0 {
			x = randomExpr(r, g, 2)
		}
		_, code := search(t, g, impl.Equation{Left: e, Right: x}, i%5)
		codes[code]++
	}
	if codes[impl.OK] < 20 || codes[impl.ErrNotFound] < 3 || codes[impl.ErrBudget] < 3 {
		t.Errorf("too few of some codes: %v", codes)
	}
}
