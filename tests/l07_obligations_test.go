package tests

import (
	"fmt"
	"math/rand"
	"slices"
	"strings"
	"testing"

	"loop.example/g01101/impl"
)

// This file tests obligations of annotated programs: promise 18.

// TestObligations has the pairs of each kind of program, in their order.
func TestObligations(t *testing.T) {
	const t0, t1 = "((0 + (t0 ~t1)) + (t0 t1))", "((0 + (~t0 t1)) + (t0 t1))" // conditions of their atoms
	const all = "((((0 + (~t0 ~t1)) + (t0 ~t1)) + (~t0 t1)) + (t0 t1))"
	for _, row := range []struct {
		text       string
		premises   []string
		invariants []string
		pairs      []string
	}{
		{"[t0] skip [(t0 + t1)]", nil, nil, []string{"t0 = (t0 + t1)"}}, {"[t0] fail [t1]", nil, nil, []string{"t0 = 1"}}, {"[~~t0] a0 [t1]", nil, nil, []string{"~~t0 = 0"}}, {"[1] a0 [1]", nil, nil, []string{"1 = " + all}}, {"[1] assert t0 [t1]", nil, nil, []string{"1 = (~t0 + t1)"}},
		{"[1] a0 [t1]", []string{"[t0] a0 [t1]"}, nil, []string{"1 = " + t0}}, {"[1] a0 [t1]", []string{"[t0] a1 [t1]", "[t1] a0 [(t0 + t1)]", "[t1] a0 [~t0]"}, nil, []string{"1 = " + t1}},
		{"[t0] {assert t0; assert t1} [0]", nil, nil, []string{"t0 = (~t0 + (~t1 + 0))"}}, {"[t0] {a0; fail} [0]", nil, nil, []string{"t0 = " + all}}, {"[t0] {fail; a0} [0]", nil, nil, []string{"t0 = 1"}}, {"[t0] {a0; a1} [t1]", []string{"[t0] a0 [t0]", "[t0] a1 [t1]"}, nil, []string{"t0 = " + t0}},
		{"[1] if t0 then skip else assert t1 fi [t1]", nil, nil, []string{"1 = ((t0 t1) + (~t0 (~t1 + t1)))"}}, {"[1] {if t0 then skip else fail fi; assert t1} [t0]", nil, nil, []string{"1 = ((t0 (~t1 + t0)) + (~t0 1))"}},
		{"[t1] while t0 do a0 od [0]", nil, []string{"~t1"}, []string{"t1 = ~t1", "(t0 ~t1) = 0", "(~t0 ~t1) = 0"}}, {"[t1] while t0 do skip od [(t1 + t1)]", nil, []string{"1"}, []string{"t1 = 1", "(t0 1) = 1", "(~t0 1) = (t1 + t1)"}},
		{"[t1] while (t0 t0) do a0 od [~t0]", []string{"[t0] a0 [t1]"}, []string{"t1"}, []string{"t1 = t1", "((t0 t0) t1) = " + t0, "(~(t0 t0) t1) = ~t0"}},
		{"[1] while t0 do while t1 do assert t0 od od [~t1]", nil, []string{"~t0", "~t1"}, []string{"1 = ~t0", "(t0 ~t0) = ~t1", "(~t0 ~t0) = ~t1", "(t1 ~t1) = (~t0 + ~t1)", "(~t1 ~t1) = ~t0"}},
		{"[1] while t0 do {while t1 do skip od; while ~t1 do fail od} od [t1]", nil, []string{"~~1", "~t0", "~t1"}, []string{"1 = ~~1", "(t0 ~~1) = ~t0", "(~t0 ~~1) = t1", "(t1 ~t0) = ~t0", "(~t1 ~t0) = ~t1", "(~t1 ~t1) = 1", "(~~t1 ~t1) = ~~1"}},
		{"[1] {while t0 do skip od; {while t1 do fail od; while (t0 t1) do assert 0 od}} [0]", nil, []string{"~t0", "~t1", "1"}, []string{"1 = ~t0", "(t0 ~t0) = ~t0", "(~t0 ~t0) = ~t1", "(t1 ~t1) = 1", "(~t1 ~t1) = 1", "((t0 t1) 1) = (~0 + 1)", "(~(t0 t1) 1) = 0"}},
		{"[1] if t0 then while t1 do while t0 do skip od od else while ~t1 do skip od fi [t1]", nil, []string{"(1 1)", "~0", "~t0"}, []string{"1 = ((t0 (1 1)) + (~t0 ~t0))", "(t1 (1 1)) = ~0", "(~t1 (1 1)) = t1", "(t0 ~0) = ~0", "(~t0 ~0) = (1 1)", "(~t1 ~t0) = ~t0", "(~~t1 ~t0) = t1"}},
	} {
		x, premises, invariants := mustTriple(t, sig22, row.text), mustPremises(t, sig22, row.premises...), mustExprs(t, sig22, strings.Join(row.invariants, "; "))
		pairs, code := impl.ObligationsOf(sig22, premises, x, invariants)
		wanted := strings.Join(row.pairs, "\n") + "\n"
		want(t, row.text, list(pairsText(pairs), code), list(wanted, impl.OK))
		want(t, row.text+", as a text", impl.BisimText(sig22, pairs), wanted)
		byTable, second := obligationsBy(sig22, premises, x, invariants)
		want(t, row.text+", by the table", list(pairsText(byTable), second), list(wanted, impl.OK))
	}
}

// TestRandomObligations: all pairs, and what they prove if they are met; those
// of the weakest conditions can be met just for triples that hold.
func TestRandomObligations(t *testing.T) {
	r, counts := rand.New(rand.NewSource(220)), map[string]int{}
	for i := range 1200 {
		g := []impl.Sig{sig12, sig22, {Tests: 3, Actions: 2}, sig01}[i%4]
		premises := randomPremises(r, g, []int{0, 3, 12}[i%3])
		x := randomTriple(r, g, 1+r.Intn(4))
		if i%5 < 2 { // loops in a loop
			first, second := randomProg(r, g, 2), randomProg(r, g, 2)
			x.Prog = while(randomCondition(r, g, 3), seq(while(randomCondition(r, g, 3), first), while(randomCondition(r, g, 3), second)))
		}
		if i%2 == 0 {
			x.Pre = and(x.Pre, conditionBy(g, weakestBy(g, premises, x.Prog, x.Post)))
		}
		name := fmt.Sprint(tripleByTable(x), " under ", premises)
		invariants := []impl.Expr{}
		for range len(loopPaths(x.Prog)) + one01(i%10 == 0)*(r.Intn(3)-1) {
			invariants = append(invariants, randomCondition(r, g, 2))
		}
		met := checkObligations(t, name, g, premises, x, invariants)
		holding, _ := impl.TripleUnder(g, premises, x)
		if met && !holding {
			t.Errorf("%s: obligations are met, but it does not hold", name)
		}
		weakest := weakestInvariants(g, premises, x.Prog, x.Post)
		_, code := impl.ObligationsOf(g, premises, x, weakest)
		if code == impl.OK {
			want(t, name+", by the weakest conditions", checkObligations(t, name, g, premises, x, weakest), holding)
			counts[fmt.Sprint("weakest ", holding, len(weakest) > 1)]++
		}
		counts[fmt.Sprint("met ", met)]++
	}
	for key, least := range map[string]int{"met true": 200, "met false": 200, "weakest true true": 50, "weakest false true": 20} {
		if counts[key] < least {
			t.Errorf("counts: %v", counts)
		}
	}
}

// checkObligations compares with the definition, and tells whether all pairs are
// implied.
func checkObligations(t *testing.T, name string, g impl.Sig, premises []impl.Premise, x impl.Triple, invariants []impl.Expr) bool {
	t.Helper()
	pairs, code := impl.ObligationsOf(g, premises, x, invariants)
	wanted, second := obligationsBy(g, premises, x, invariants)
	want(t, name+" by "+textsOf(invariants), list(pairsText(pairs), code), list(pairsText(wanted), second))
	met := code == impl.OK
	for _, p := range pairs {
		implied, code := impl.Implies(g, p.Left, p.Right)
		want(t, name+", a pair", code, impl.OK)
		met = met && implied
	}
	return met
}

// TestObligationsLimits: conditions that are just small enough, on the way and
// in pairs; a program may have very many paths.
func TestObligationsLimits(t *testing.T) {
	b := func(nodes int) impl.Expr { return nodesOf(t, test(0), nodes) }
	deep := func(levels int) impl.Expr { return levelsOf(test(0), levels) }
	split := ifThen(test(0), skip, skip)
	for _, row := range []struct {
		name       string
		x          impl.Triple
		invariants []impl.Expr
		code       int
	}{
		{"an assertion of 200 nodes", triple(one, assert(b(97)), b(101)), nil, impl.OK}, {"an assertion of 201 nodes", triple(one, assert(b(98)), b(101)), nil, impl.ErrLimit}, {"an assertion of 40 levels", triple(one, assert(deep(38)), one), nil, impl.OK}, {"an assertion of 41 levels", triple(one, assert(deep(39)), one), nil, impl.ErrLimit},
		{"40 levels behind an assertion", triple(one, assert(one), deep(39)), nil, impl.OK}, {"41 levels behind an assertion", triple(one, assert(one), deep(40)), nil, impl.ErrLimit}, {"a choice of 200 nodes", triple(one, ifThen(b(60), skip, skip), b(38)), nil, impl.OK}, {"a choice of 201 nodes", triple(one, ifThen(b(60), skip, assert(zero)), b(37)), nil, impl.ErrLimit},
		{"a choice of 200 nodes by an assertion", triple(one, ifThen(b(60), skip, assert(zero)), zero), nil, impl.OK}, {"a choice of 202 nodes", triple(one, ifThen(b(61), skip, skip), b(38)), nil, impl.ErrLimit}, {"a choice of 40 levels", triple(one, ifThen(deep(37), skip, skip), one), nil, impl.OK}, {"a choice of 41 levels", triple(one, ifThen(deep(38), skip, skip), one), nil, impl.ErrLimit},
		{"a choice of 40 levels by what follows", triple(one, ifThen(one, skip, skip), deep(38)), nil, impl.OK}, {"a choice of 41 levels by what follows", triple(one, ifThen(one, skip, skip), deep(39)), nil, impl.ErrLimit},
		{"a pair of 200 nodes", triple(one, while(b(98), failing), one), []impl.Expr{b(100)}, impl.OK}, {"a pair of 201 nodes", triple(one, while(b(99), failing), one), []impl.Expr{b(100)}, impl.ErrLimit}, {"a pair of 201 nodes by its invariant", triple(one, while(b(98), failing), one), []impl.Expr{b(101)}, impl.ErrLimit},
		{"a pair of 40 levels", triple(one, while(deep(38), failing), one), []impl.Expr{one}, impl.OK}, {"a pair of 41 levels", triple(one, while(deep(39), failing), one), []impl.Expr{one}, impl.ErrLimit}, {"an invariant of 39 levels", triple(one, while(one, failing), one), []impl.Expr{deep(39)}, impl.OK}, {"an invariant of 40 levels", triple(one, while(one, failing), one), []impl.Expr{deep(40)}, impl.ErrLimit},
		{"too large in an inner loop", triple(one, while(one, while(b(99), failing)), one), []impl.Expr{one, b(100)}, impl.ErrLimit}, {"not too large in an inner loop", triple(one, while(one, while(b(98), failing)), one), []impl.Expr{one, b(100)}, impl.OK}, {"too large behind a loop", triple(one, seq(while(one, skip), assert(b(100))), b(100)), []impl.Expr{one}, impl.ErrLimit},
		{"too large on the way to a failure", triple(one, seq(failing, assert(b(100))), b(100)), nil, impl.ErrLimit}, {"too large on the way to an action", triple(one, seq(do(0), assert(b(100))), b(100)), nil, impl.ErrLimit}, {"too large in the kid of a loop", triple(one, while(one, seq(failing, assert(b(100)))), one), []impl.Expr{b(100)}, impl.ErrLimit},
		{"too large in a choice", triple(one, seq(do(0), ifThen(one, assert(b(100)), skip)), b(100)), nil, impl.ErrLimit}, {"the largest ends", triple(b(200), skip, deep(40)), nil, impl.OK}, {"very many paths", triple(one, evenly(15, split), one), nil, impl.ErrLimit}, {"four choices", triple(one, evenly(4, split), one), nil, impl.OK}, {"five choices", triple(one, evenly(5, split), one), nil, impl.ErrLimit},
		{"very many paths to an action", triple(one, seq(do(0), evenly(14, split)), one), nil, impl.ErrLimit}, {"most loops", triple(one, loops(19, skip), one), slices.Repeat([]impl.Expr{one}, 19), impl.OK}, {"60 nodes", triple(one, evenly(15, while(test(0), assert(one))), one), slices.Repeat([]impl.Expr{test(0)}, 15), impl.OK},
	} {
		pairs, code := impl.ObligationsOf(sig11, nil, row.x, row.invariants)
		want(t, row.name, code, row.code)
		if code != impl.OK {
			want(t, row.name, pairs, []impl.Pair{})
		}
		if !strings.HasPrefix(row.name, "very many") { // for which the definition takes too long
			checkObligations(t, row.name, sig11, nil, row.x, row.invariants)
		}
	}
}

func TestObligationsErrors(t *testing.T) {
	x, large := triple(one, while(test(0), while(test(1), do(0))), one), nodesOf(t, test(0), 200)
	for count := range 6 {
		for _, c := range []impl.Expr{one, large} {
			pairs, code := impl.ObligationsOf(sig22, nil, x, slices.Repeat([]impl.Expr{c}, count))
			wanted := list(0, impl.ErrRange)
			if count == 2 && impl.SameExpr(c, one) {
				wanted = list(5, impl.OK)
			} else if count == 2 {
				wanted = list(0, impl.ErrLimit)
			}
			want(t, fmt.Sprint(count, " invariants"), list(len(pairs), code), wanted)
		}
	}
	pairs, code := impl.ObligationsOf(sig22, nil, triple(one, do(0), one), []impl.Expr{one})
	none, second := impl.ObligationsOf(sig22, nil, triple(one, loops(1, skip), one), nil)
	want(t, "one too many, one too few", list(pairs, code, none, second), list([]impl.Pair{}, impl.ErrRange, []impl.Pair{}, impl.ErrRange))
	for name, c := range badConditions() {
		for _, invariants := range [][]impl.Expr{{c, one}, {one, c}, {one, one, c}, {c}, {large, c}} {
			pairs, code := impl.ObligationsOf(sig22, nil, x, invariants)
			want(t, name, list(pairs, code), list([]impl.Pair{}, impl.ErrInvalid))
		}
	}
	for name, premises := range badPremises() {
		for _, invariants := range [][]impl.Expr{{one, one}, {one}, {large, large}} {
			pairs, code := impl.ObligationsOf(sig22, premises, x, invariants)
			want(t, name, list(pairs, code), list([]impl.Pair{}, impl.ErrInvalid))
		}
	}
	for name, y := range badTriples() {
		for count := range 3 {
			pairs, code := impl.ObligationsOf(sig22, nil, y, slices.Repeat([]impl.Expr{one}, count))
			want(t, name, list(pairs, code), list([]impl.Pair{}, impl.ErrInvalid))
		}
	}
	for _, g := range badSigs {
		pairs, code := impl.ObligationsOf(g, nil, triple(one, skip, one), nil)
		want(t, "a bad signature", list(pairs, code), list([]impl.Pair{}, impl.ErrInvalid))
	}
}
