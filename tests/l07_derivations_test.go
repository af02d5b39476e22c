package tests

import (
	"fmt"
	"math/rand"
	"slices"
	"strings"
	"testing"

	"loop.example/g01101/impl"
)

// This file tests derivations: promise 18, and promise 22 for what is derived.

// TestDerivations has the derivation of each kind of program, node by node.
func TestDerivations(t *testing.T) {
	const all = "((((0 + (~t0 ~t1)) + (t0 ~t1)) + (~t0 t1)) + (t0 t1))"
	for _, row := range []struct {
		text     string
		premises []string
		lines    []string
	}{
		{"[t0] skip [(t0 + t1)]", nil, []string{"together [t0] skip [(t0 + t1)]", "  together [(((0 + (t0 ~t1)) + (~t0 t1)) + (t0 t1))] skip [(t0 + t1)]", "    skip [(t0 + t1)] skip [(t0 + t1)]"}},
		{"[t1] fail [0]", nil, []string{"together [t1] fail [0]", "  fail [" + all + "] fail [0]"}},
		{"[0] a0 [t0]", nil, []string{"together [0] a0 [t0]", "  together [0] a0 [t0]"}},
		{"[t1] a1 [1]", []string{"[1] a0 [t0]"}, []string{"together [t1] a1 [1]", "  together [" + all + "] a1 [1]"}},
		{"[(t0 t1)] a0 [t1]", []string{"[t0] a0 [t1]", "[t0] a1 [t1]", "[t1] a0 [t0]", "[t0] a0 [t1]"}, []string{"together [(t0 t1)] a0 [t1]", "  together [((0 + (t0 ~t1)) + (t0 t1))] a0 [t1]", "    act [t0] a0 [t1]", "    act [t1] a0 [t0]", "    act [t0] a0 [t1]"}},
		{"[~t0] assert t0 [t1]", nil, []string{"together [~t0] assert t0 [t1]", "  together [(((0 + (~t0 ~t1)) + (~t0 t1)) + (t0 t1))] assert t0 [t1]", "    assert [(~t0 + t1)] assert t0 [t1]"}},
		{"[1] {a0; assert ~t1} [t0]", []string{"[1] a0 [t1]"}, []string{"together [1] {a0; assert ~t1} [t0]", "  seq [" + all + "] {a0; assert ~t1} [t0]",
			"    together [" + all + "] a0 [(((0 + (t0 ~t1)) + (~t0 t1)) + (t0 t1))]", "      act [1] a0 [t1]", "    together [(((0 + (t0 ~t1)) + (~t0 t1)) + (t0 t1))] assert ~t1 [t0]", "      assert [(~~t1 + t0)] assert ~t1 [t0]"}},
		{"[t1] if t0 then skip else fail fi [t0]", nil, []string{"together [t1] if t0 then skip else fail fi [t0]", "  if [" + all + "] if t0 then skip else fail fi [t0]",
			"    together [(t0 " + all + ")] skip [t0]", "      together [((0 + (t0 ~t1)) + (t0 t1))] skip [t0]", "        skip [t0] skip [t0]", "    together [(~t0 " + all + ")] fail [t0]", "      fail [" + all + "] fail [t0]"}},
		{"[(t0 ~t1)] while t0 do a0 od [~t1]", []string{"[~t1] a0 [~t1]"}, []string{"together [(t0 ~t1)] while t0 do a0 od [~t1]", "  together [((0 + (~t0 ~t1)) + (t0 ~t1))] while t0 do a0 od [~t1]",
			"    while [((0 + (~t0 ~t1)) + (t0 ~t1))] while t0 do a0 od [(~t0 ((0 + (~t0 ~t1)) + (t0 ~t1)))]", "      together [(t0 ((0 + (~t0 ~t1)) + (t0 ~t1)))] a0 [((0 + (~t0 ~t1)) + (t0 ~t1))]",
			"        together [((0 + (~t0 ~t1)) + (t0 ~t1))] a0 [((0 + (~t0 ~t1)) + (t0 ~t1))]", "          act [~t1] a0 [~t1]"}},
	} {
		x, premises := mustTriple(t, sig22, row.text), mustPremises(t, sig22, row.premises...)
		d, code := impl.FindDerivation(sig22, premises, x)
		wanted := strings.Join(row.lines, "\n") + "\n"
		want(t, "the code for "+row.text, code, impl.OK)
		if code != impl.OK {
			continue
		}
		if got := derivationText(d); got != wanted {
			t.Errorf("%s: got\n%swant\n%s", row.text, got, wanted)
		}
		want(t, "read again", derivationText(mustDerivation(t, sig22, row.lines...)), wanted)
		count, code := impl.CheckDerivation(sig22, premises, d)
		want(t, row.text, list(impl.DerivationSize(d), count, code), list(len(row.lines), len(row.lines), impl.OK))
	}
}

// derived is FindDerivation with its results compared with the definition, and
// all that has to be true of a derivation.
func derivedUnder(t *testing.T, r *rand.Rand, g impl.Sig, premises []impl.Premise, x impl.Triple) int64 {
	t.Helper()
	name := fmt.Sprint(tripleByTable(x), " under ", premises)
	d, code := impl.FindDerivation(g, premises, x)
	wanted, second := findBy(g, premises, x)
	if code != int64(second) || code != impl.OK {
		want(t, name, list(code, d), list(second, impl.Derivation{}))
		return code
	}
	want(t, name, derivationText(d), derivationText(wanted))
	nodes := nodesOfDerivation(d)
	count, code := impl.CheckDerivation(g, premises, d)
	want(t, name+", checked", list(count, code, impl.DerivationSize(d)), list(len(nodes), impl.OK, len(nodes)))
	w := worldUnder(r, g, premises, 1+r.Int63n(12))
	models, _ := impl.ModelsPremises(g, w, premises)
	want(t, name+", a world that models", models, true)
	for _, n := range nodes {
		holding, code := impl.TripleUnder(g, premises, n.Says)
		want(t, name+", a node", list(holding, code), list(true, impl.OK))
		holdsInWorld(t, name, g, w, n.Says)
	}
	return impl.OK
}

// holdsInWorld runs a triple from each state of a world.
func holdsInWorld(t *testing.T, name string, g impl.Sig, w impl.World, x impl.Triple) {
	t.Helper()
	for state, atom := range w.Atoms {
		if last, _, _, code := impl.RunProg(g, w, x.Prog, int64(state), 500); code == impl.OK && emptyIn(x.Pre, atom) {
			want(t, name+": "+tripleByTable(x)+" in a world", emptyIn(x.Post, w.Atoms[last]), true)
		}
	}
}

func TestFindDerivation(t *testing.T) {
	r, codes := rand.New(rand.NewSource(210)), map[int64]int{}
	for i := range 500 {
		g := []impl.Sig{sig12, sig22, {Tests: 3, Actions: 2}, sig01, sig34}[i%5]
		premises := randomPremises(r, g, []int{3, 12, 0, 5}[i%4])
		x := randomTriple(r, g, 1+r.Intn(4))
		if i%3 > 0 {
			x = randomHolding(r, g, premises, 1+r.Intn(4))
		}
		codes[derivedUnder(t, r, g, premises, x)]++
	}
	if codes[impl.OK] < 300 || codes[impl.ErrState] < 50 {
		t.Errorf("codes: %v", codes)
	}
	for _, text := range []string{"skip", "fail"} { // without any test or action
		derivedUnder(t, r, sig00, nil, mustTriple(t, sig00, "[1] "+text+" [1]"))
		derivedUnder(t, r, sig00, nil, mustTriple(t, sig00, "[1] "+text+" [0]"))
		derivedUnder(t, r, sig00, nil, mustTriple(t, sig00, "[1] while 1 do "+text+" od [0]"))
	}
	for _, p := range goodProgs(t) {
		derivedUnder(t, r, sig22, nil, triple(one, p, one))
	}
}

// TestFindDerivationLimits: 400 and 401 nodes, and conditions that are just
// small enough, in the table's order.
func TestFindDerivationLimits(t *testing.T) {
	most := slices.Repeat([]impl.Premise{premise(one, 0, one)}, 12)
	b := func(nodes int) impl.Expr { return nodesOf(t, test(0), nodes) }
	deep := func(levels int) impl.Expr { return levelsOf(test(0), levels) }
	for _, row := range []struct {
		name string
		list []impl.Premise
		x    impl.Triple
		size int // or 0 for ErrLimit
	}{
		{"400 nodes", most, triple(zero, seq(ifThen(test(0), do(0), do(0)), seq(seq(skip, skip), evenly(26, do(0)))), one), 400},
		{"401 nodes", most, triple(zero, while(test(0), seq(seq(skip, skip), evenly(28, do(0)))), one), 0},
		{"398 nodes", most, triple(zero, seq(seq(skip, skip), evenly(28, do(0))), one), 398}, {"418 nodes", most, triple(zero, evenly(29, do(0)), one), 0}, {"390 nodes with 11 premises", most[1:], triple(zero, evenly(30, do(0)), one), 390},
		{"an assertion of 200 nodes", nil, triple(zero, assert(b(97)), b(101)), 3}, {"an assertion of 201 nodes", nil, triple(zero, assert(b(98)), b(101)), 0}, {"an assertion of 201 nodes by what holds behind it", nil, triple(zero, assert(b(97)), b(102)), 0}, {"the largest assertion", nil, triple(zero, assert(b(200)), b(200)), 0},
		{"an assertion of 40 levels", nil, triple(zero, assert(deep(38)), one), 3}, {"an assertion of 41 levels", nil, triple(zero, assert(deep(39)), one), 0}, {"an assertion with 40 levels behind it", nil, triple(zero, assert(one), deep(39)), 3}, {"an assertion with 41 levels behind it", nil, triple(zero, assert(one), deep(40)), 0},
		{"a choice of 200 nodes", nil, triple(zero, ifThen(b(192), skip, fail()), one), 7}, {"a choice of 201 nodes", nil, triple(zero, ifThen(b(193), skip, fail()), one), 0}, {"a choice of 200 nodes for no atoms", nil, triple(zero, ifThen(b(197), skip, skip), zero), 8}, {"a choice of 201 nodes for no atoms", nil, triple(zero, ifThen(b(198), skip, skip), zero), 0},
		{"a choice of 40 levels", nil, triple(zero, ifThen(deep(38), fail(), fail()), one), 6}, {"a choice of 41 levels", nil, triple(zero, ifThen(deep(39), fail(), fail()), one), 0},
		{"a loop of 200 nodes", nil, triple(zero, while(b(192), skip), one), 6}, {"a loop of 201 nodes", nil, triple(zero, while(b(193), skip), one), 0}, {"a loop of 40 levels", nil, triple(zero, while(deep(38), fail()), one), 5}, {"a loop of 41 levels", nil, triple(zero, while(deep(39), fail()), one), 0},
		{"a loop of 201 nodes in a kid", nil, triple(zero, seq(fail(), while(b(193), skip)), one), 0}, {"the largest conditions", nil, triple(b(200), skip, or(test(0), b(197))), 3}, {"the deepest conditions", nil, triple(deep(40), while(deep(1), do(0)), deep(40)), 0},
	} {
		got := derivedUnder(t, rand.New(rand.NewSource(1)), sig11, row.list, row.x)
		d, code := impl.FindDerivation(sig11, row.list, row.x)
		if row.name == "the deepest conditions" {
			want(t, row.name, got, impl.ErrState) // which is told before a limit
		} else if row.size == 0 {
			want(t, row.name, list(d, code), list(impl.Derivation{}, impl.ErrLimit))
		} else {
			want(t, row.name, list(impl.DerivationSize(d), code), list(row.size, impl.OK))
		}
	}
	_, code := impl.FindDerivation(sig11, most, triple(one, evenly(29, do(0)), zero))
	_, second := impl.FindDerivation(sig11, nil, triple(one, assert(b(200)), not(b(199))))
	want(t, "a triple that does not hold, and limits", list(code, second), list(impl.ErrState, impl.ErrState))
}

func fail() impl.Prog { return failing }

// TestRulesOfDerivations has for each rule nodes that are right, and nodes for
// which one thing is not true.
func TestRulesOfDerivations(t *testing.T) {
	premises := mustPremises(t, sig22, "[t0] a0 [~t0]", "[t1] a1 [(t1 + t0)]", "[t1] a0 [~t1]")
	for _, row := range []struct {
		right bool
		lines []string
	}{
		{true, []string{"skip [t0] skip [t0]"}}, {true, []string{"skip [0] skip [0]"}}, {false, []string{"skip [t0] skip [t1]"}}, {false, []string{"skip [t0] skip [~~t0]"}}, {false, []string{"skip [0] skip [1]"}}, {false, []string{"skip [(t0 t1)] skip [(t1 t0)]"}}, {false, []string{"skip [t0] assert 1 [t0]"}}, {false, []string{"skip [t0] a0 [t0]"}},
		{false, []string{"skip [t0] fail [t0]"}}, {false, []string{"skip [t0] {skip; skip} [t0]"}}, {false, []string{"skip [t0] skip [t0]", "  skip [t0] skip [t0]"}},
		{true, []string{"fail [t0] fail [0]"}}, {true, []string{"fail [1] fail [t1]"}}, {false, []string{"fail [0] skip [0]"}}, {false, []string{"fail [0] assert 0 [0]"}}, {false, []string{"fail [t0] fail [0]", "  fail [t0] fail [0]"}}, {false, []string{"fail [t0] {fail; fail} [0]"}},
		{true, []string{"act [t0] a0 [~t0]"}}, {true, []string{"act [t1] a0 [~t1]"}}, {true, []string{"act [t1] a1 [(t1 + t0)]"}}, {false, []string{"act [t0] a1 [~t0]"}}, {false, []string{"act [t1] a0 [(t1 + t0)]"}}, {false, []string{"act [t0] a0 [~t1]"}}, {false, []string{"act [t1] a1 [(t0 + t1)]"}}, {false, []string{"act [~~t1] a1 [(t1 + t0)]"}},
		{false, []string{"act [1] a0 [1]"}}, {false, []string{"act [0] a0 [~t0]"}}, {false, []string{"act [t0] a0 [1]"}}, {false, []string{"act [t0] skip [~t0]"}}, {false, []string{"act [t0] a0 [~t0]", "  act [t0] a0 [~t0]"}}, {false, []string{"act [t0] {a0; skip} [~t0]"}},
		{true, []string{"assert [(~t0 + t1)] assert t0 [t1]"}}, {true, []string{"assert [(~(t0 t1) + 0)] assert (t0 t1) [0]"}}, {false, []string{"assert [(t1 + ~t0)] assert t0 [t1]"}}, {false, []string{"assert [(~t0 + t1)] assert t1 [t1]"}}, {false, []string{"assert [(~t0 + t1)] assert t0 [t0]"}}, {false, []string{"assert [(~t0 t1)] assert t0 [t1]"}}, {false, []string{"assert [(t0 + t1)] assert t0 [t1]"}},
		{false, []string{"assert [t1] assert t0 [t1]"}}, {false, []string{"assert [(~t0 + t1)] skip [t1]"}}, {false, []string{"assert [(~t0 + t1)] assert t0 [t1]", "  assert [(~t0 + t1)] assert t0 [t1]"}},
		{true, []string{"seq [t0] {fail; a0} [~t1]", "  fail [t0] fail [t1]", "  act [t1] a0 [~t1]"}}, {true, []string{"seq [t0] {a0; fail} [1]", "  act [t0] a0 [~t0]", "  fail [~t0] fail [1]"}}, {false, []string{"seq [t0] {a0; fail} [1]", "  act [t0] a0 [~t0]", "  fail [t0] fail [1]"}}, {false, []string{"seq [t0] {a0; fail} [1]", "  act [t0] a0 [~t0]", "  fail [~~~t0] fail [1]"}},
		{false, []string{"seq [1] {a0; fail} [1]", "  act [t0] a0 [~t0]", "  fail [~t0] fail [1]"}}, {false, []string{"seq [t0] {a0; fail} [0]", "  act [t0] a0 [~t0]", "  fail [~t0] fail [1]"}}, {false, []string{"seq [t0] {fail; a0} [1]", "  act [t0] a0 [~t0]", "  fail [~t0] fail [1]"}}, {false, []string{"seq [t0] {a1; fail} [1]", "  act [t0] a0 [~t0]", "  fail [~t0] fail [1]"}},
		{false, []string{"seq [t0] {a0; skip} [1]", "  act [t0] a0 [~t0]", "  fail [~t0] fail [1]"}}, {false, []string{"seq [t0] {a0; fail} [1]", "  fail [~t0] fail [1]", "  act [t0] a0 [~t0]"}}, {false, []string{"seq [t0] {fail; fail} [1]", "  fail [t0] fail [1]"}}, {false, []string{"seq [t0] {fail; fail} [1]"}}, {false, []string{"seq [t0] {fail; fail} [1]", "  fail [t0] fail [1]", "  fail [1] fail [1]", "  fail [1] fail [1]"}},
		{false, []string{"seq [t0] if t0 then fail else fail fi [1]", "  fail [t0] fail [1]", "  fail [1] fail [1]"}}, {false, []string{"seq [t0] fail [1]", "  fail [t0] fail [1]", "  fail [1] fail [1]"}},
		{true, []string{"if [t1] if t0 then fail else skip fi [(~t0 t1)]", "  fail [(t0 t1)] fail [(~t0 t1)]", "  skip [(~t0 t1)] skip [(~t0 t1)]"}}, {false, []string{"if [t1] if t0 then skip else fail fi [(~t0 t1)]", "  fail [(t0 t1)] fail [(~t0 t1)]", "  skip [(~t0 t1)] skip [(~t0 t1)]"}}, {false, []string{"if [t1] if t0 then fail else skip fi [(~t0 t1)]", "  skip [(~t0 t1)] skip [(~t0 t1)]", "  fail [(t0 t1)] fail [(~t0 t1)]"}},
		{false, []string{"if [t1] if t0 then fail else fail fi [0]", "  fail [(t1 t0)] fail [0]", "  fail [(~t0 t1)] fail [0]"}}, {false, []string{"if [t1] if t0 then fail else fail fi [0]", "  fail [(t0 t1)] fail [0]", "  fail [(t0 t1)] fail [0]"}}, {false, []string{"if [t1] if t0 then fail else fail fi [0]", "  fail [(t0 t1)] fail [0]", "  fail [(~t0 ~~t1)] fail [0]"}}, {false, []string{"if [t1] if t0 then fail else fail fi [0]", "  fail [t1] fail [0]", "  fail [t1] fail [0]"}},
		{false, []string{"if [t1] if t0 then fail else fail fi [0]", "  fail [(t0 t1)] fail [1]", "  fail [(~t0 t1)] fail [0]"}}, {false, []string{"if [t1] if t0 then fail else fail fi [0]", "  fail [(t0 t1)] fail [0]", "  fail [(~t0 t1)] fail [1]"}}, {true, []string{"if [t1] if t0 then fail else fail fi [0]", "  fail [(t0 t1)] fail [0]", "  fail [(~t0 t1)] fail [0]"}}, {false, []string{"if [t1] if t0 then fail else skip fi [0]", "  fail [(t0 t1)] fail [0]", "  fail [(~t0 t1)] fail [0]"}},
		{false, []string{"if [t1] if t0 then fail else fail fi [0]", "  fail [(t0 t1)] fail [0]"}}, {false, []string{"if [t1] if t0 then fail else fail fi [0]", "  fail [(t0 t1)] fail [0]", "  fail [(~t0 t1)] fail [0]", "  fail [(~t0 t1)] fail [0]"}}, {false, []string{"if [t1] if t0 then fail else fail fi [0]"}}, {false, []string{"if [t1] {fail; fail} [0]", "  fail [(t0 t1)] fail [0]", "  fail [(~t0 t1)] fail [0]"}},
		{true, []string{"while [t1] while t0 do fail od [(~t0 t1)]", "  fail [(t0 t1)] fail [t1]"}}, {false, []string{"while [t1] while t0 do fail od [(t1 ~t0)]", "  fail [(t0 t1)] fail [t1]"}}, {false, []string{"while [t1] while t0 do fail od [(~t0 t0)]", "  fail [(t0 t1)] fail [t1]"}}, {false, []string{"while [t1] while t0 do fail od [(~t0 t1)]", "  fail [(t0 t1)] fail [(~t0 t1)]"}}, {false, []string{"while [t1] while t0 do fail od [(~t0 t1)]", "  fail [t1] fail [t1]"}},
		{false, []string{"while [t1] while t0 do fail od [(~t0 t1)]", "  fail [(~t0 t1)] fail [t1]"}}, {false, []string{"while [t1] while t0 do skip od [(~t0 t1)]", "  fail [(t0 t1)] fail [t1]"}}, {false, []string{"while [t1] while t0 do fail od [(~t0 t1)]"}}, {false, []string{"while [t1] while t0 do fail od [(~t0 t1)]", "  fail [(t0 t1)] fail [t1]", "  fail [(t0 t1)] fail [t1]"}}, {false, []string{"while [t1] while t1 do fail od [(~t0 t1)]", "  fail [(t0 t1)] fail [t1]"}}, {false, []string{"while [t1] fail [(~t0 t1)]", "  fail [(t0 t1)] fail [t1]"}},
		{true, []string{"together [0] a0 [0]"}}, {true, []string{"together [1] a0 [1]"}}, {true, []string{"together [(t0 ~t0)] {a0; a1} [t1]"}}, {true, []string{"together [t0] while t0 do a0 od [(t1 + ~t1)]"}}, {false, []string{"together [t0] a0 [t1]"}}, {false, []string{"together [t0] skip [t0]"}}, {false, []string{"together [1] fail [(t0 + t1)]"}},
		{true, []string{"together [t0] skip [t0]", "  skip [t0] skip [t0]"}}, {true, []string{"together [(t0 t1)] skip [t0]", "  skip [t0] skip [t0]"}}, {true, []string{"together [t0] skip [(t0 + t1)]", "  skip [t0] skip [t0]"}}, {false, []string{"together [t0] skip [t1]", "  skip [t0] skip [t0]"}}, {false, []string{"together [1] skip [t0]", "  skip [t0] skip [t0]"}}, {false, []string{"together [t0] {skip; skip} [t0]", "  skip [t0] skip [t0]"}},
		{true, []string{"together [(t0 t1)] a0 [(~t0 ~t1)]", "  act [t0] a0 [~t0]", "  act [t1] a0 [~t1]"}}, {true, []string{"together [(t0 t1)] a0 [~t1]", "  act [t0] a0 [~t0]", "  act [t1] a0 [~t1]"}}, {true, []string{"together [(t0 t1)] a0 [~t1]", "  act [t1] a0 [~t1]", "  act [t0] a0 [~t0]", "  act [t1] a0 [~t1]"}}, {true, []string{"together [(t0 + t1)] a0 [(~t0 + ~t1)]", "  act [t0] a0 [~t0]", "  act [t1] a0 [~t1]"}},
		{false, []string{"together [(t0 + t1)] a0 [(~t0 ~t1)]", "  act [t0] a0 [~t0]", "  act [t1] a0 [~t1]"}}, {false, []string{"together [(t0 + t1)] a0 [~t0]", "  act [t0] a0 [~t0]", "  act [t1] a0 [~t1]"}}, {false, []string{"together [(t0 t1)] a0 [(~t0 ~t1)]", "  act [t0] a0 [~t0]"}}, {false, []string{"together [t0] a1 [~t0]", "  act [t0] a0 [~t0]"}}, {true, []string{"together [0] a0 [0]", "  act [t0] a0 [~t0]"}}, {true, []string{"together [t0] a0 [1]", "  act [t1] a0 [~t1]", "  act [t1] a0 [~t1]"}},
		{false, []string{"together [0] a0 [0]", "  act [t1] a1 [(t1 + t0)]"}}, {false, []string{"together [t0] a0 [~t0]", "  act [t0] a0 [~t0]", "  skip [t0] skip [t0]"}}, {false, []string{"together [1] a0 [1]", "  skip [t0] skip [t0]"}}, {true, []string{"together [(~t0 + ~~t0)] assert t0 [t0]", "  assert [(~t0 + t0)] assert t0 [t0]"}}, {true, []string{"together [t0] fail [0]", "  fail [~t1] fail [0]", "  fail [t1] fail [0]"}},
		{true, []string{"together [t0] fail [0]", "  fail [t0] fail [t1]", "  fail [t0] fail [~t1]"}}, {false, []string{"together [1] fail [0]", "  fail [t0] fail [t1]", "  fail [~t0] fail [~t1]"}}, {true, []string{"together [1] fail [(t0 + t1)]", "  fail [t0] fail [t0]", "  fail [~t0] fail [t1]"}},
		{false, []string{"none [t0] skip [t0]"}}, {false, []string{"none [0] a0 [1]"}},
	} {
		d := mustDerivation(t, sig22, row.lines...)
		wanted := list(len(row.lines), impl.OK)
		if !row.right {
			wanted = list(len(row.lines)-1, impl.ErrProof)
		}
		count, code := impl.CheckDerivation(sig22, premises, d)
		want(t, strings.Join(row.lines, ", "), list(count, code), wanted)
		want(t, "by the table, "+strings.Join(row.lines, ", "), checkBy(sig22, premises, d), wanted)
	}
	for _, rule := range []int64{-1, 0, 9, 1 << 32, 1<<63 - 1, -1 << 63} {
		for _, p := range []impl.Prog{skip, failing, do(0)} {
			count, code := impl.CheckDerivation(sig22, premises, node(rule, zero, p, one))
			want(t, fmt.Sprint("the rule ", rule), list(count, code), list(0, impl.ErrProof))
		}
	}
	count, code := impl.CheckDerivation(sig22, nil, node(impl.HrAct, test(0), do(0), not(test(0))))
	want(t, "no premises", list(count, code), list(0, impl.ErrProof))
}

// TestFirstWrongNode: numbers of wrong nodes, of which there may be several.
func TestFirstWrongNode(t *testing.T) {
	for _, row := range []struct {
		number int
		lines  []string
	}{
		{0, []string{"skip [t0] skip [t1]"}}, {0, []string{"together [0] skip [0]", "  skip [t0] skip [t1]"}}, {1, []string{"together [0] skip [0]", "  skip [t0] skip [t0]", "  skip [t0] skip [t1]"}}, {2, []string{"together [1] skip [0]", "  skip [t0] skip [t0]", "  skip [t1] skip [t1]"}}, {0, []string{"together [1] skip [0]", "  skip [t0] skip [t1]", "  skip [t1] skip [t1]"}},
		{2, []string{"together [0] skip [0]", "  together [0] skip [0]", "    skip [t0] skip [t0]", "  skip [t0] skip [t1]"}}, {1, []string{"together [0] skip [0]", "  together [1] skip [0]", "    skip [t0] skip [t0]", "  skip [t0] skip [t1]"}}, {4, []string{"together [1] skip [t0]", "  together [0] skip [0]", "    skip [t0] skip [t0]", "  together [t1] skip [t1]", "    skip [t1] skip [t1]"}},
		{3, []string{"seq [t0] {{fail; fail}; {fail; skip}} [t1]", "  seq [t0] {fail; fail} [t0]", "    fail [t0] fail [1]", "    fail [1] fail [t0]", "  seq [t0] {fail; skip} [t1]", "    skip [t0] skip [t1]", "    skip [t1] skip [t1]"}}, {5, []string{"seq [t0] {{fail; fail}; {fail; skip}} [t1]", "  seq [t0] {fail; fail} [t0]", "    fail [t0] fail [1]", "    fail [1] fail [t0]", "  seq [t0] {fail; skip} [t1]", "    fail [t0] fail [t0]", "    skip [t1] skip [t1]"}},
		{6, []string{"seq [t1] {{fail; fail}; {fail; skip}} [t1]", "  seq [t0] {fail; fail} [t0]", "    fail [t0] fail [1]", "    fail [1] fail [t0]", "  seq [t0] {fail; skip} [t1]", "    fail [t0] fail [t1]", "    skip [t1] skip [t1]"}}, {2, []string{"while [t0] while t0 do {fail; skip} od [(~t0 t0)]", "  seq [(t0 t0)] {fail; skip} [t0]", "    fail [(t0 t0)] fail [1]", "    skip [t0] skip [t0]"}},
	} {
		d := mustDerivation(t, sig22, row.lines...)
		count, code := impl.CheckDerivation(sig22, nil, d)
		want(t, strings.Join(row.lines, ", "), list(count, code), list(row.number, impl.ErrProof))
		want(t, "by the table", checkBy(sig22, nil, d), list(row.number, impl.ErrProof))
	}
	good := node(impl.HrFail, one, failing, zero)
	for name, x := range badTriples() {
		bad := impl.Derivation{Rule: impl.HrTogether, Says: x}
		first, code := impl.CheckDerivation(sig22, nil, bad)
		second, other := impl.CheckDerivation(sig22, nil, node(impl.HrTogether, zero, failing, one, good, bad))
		third, last := impl.CheckDerivation(sig22, nil, impl.Derivation{Rule: impl.HrTogether, Says: x, Kids: []impl.Derivation{good, good, good}})
		want(t, name, list(first, code, second, other, third, last), list(0, impl.ErrProof, 1, impl.ErrProof, 3, impl.ErrProof))
	}
	for kind := int64(1); kind <= 8; kind++ { // a node that is right but for its triple
		for name, c := range badConditions() {
			count, code := impl.CheckDerivation(sig22, nil, node(kind, c, failing, one))
			other, second := impl.CheckDerivation(sig22, nil, node(kind, zero, failing, c))
			want(t, name, list(count, code, other, second), list(0, impl.ErrProof, 0, impl.ErrProof))
		}
	}
}

// TestChangedDerivations changes something in right derivations; what is still
// right holds.
func TestChangedDerivations(t *testing.T) {
	r, codes := rand.New(rand.NewSource(211)), map[any]int{}
	for i := range 1500 {
		g := []impl.Sig{sig12, sig22}[i%2]
		premises := randomPremises(r, g, 4)
		d, code := impl.FindDerivation(g, premises, randomHolding(r, g, premises, 1+r.Intn(3)))
		if code != impl.OK {
			continue
		}
		for range 1 + r.Intn(2) {
			d = changedDerivation(r, g, d)
		}
		wanted := checkBy(g, premises, d)
		count, code := impl.CheckDerivation(g, premises, d)
		want(t, derivationText(d), list(count, code), wanted)
		codes[wanted[1]]++
		if code == impl.OK {
			holding, code := impl.TripleUnder(g, premises, d.Says)
			want(t, "what it says, "+tripleByTable(d.Says), list(holding, code), list(true, impl.OK))
			holdsInWorld(t, "a changed derivation", g, worldUnder(r, g, premises, 6), d.Says)
		}
	}
	if codes[impl.OK] < 150 || codes[impl.ErrProof] < 500 {
		t.Errorf("codes: %v", codes)
	}
}

// changedDerivation changes one node.
func changedDerivation(r *rand.Rand, g impl.Sig, d impl.Derivation) impl.Derivation {
	if len(d.Kids) > 0 && r.Intn(4) > 0 {
		i := r.Intn(len(d.Kids))
		d.Kids = slices.Clone(d.Kids)
		d.Kids[i] = changedDerivation(r, g, d.Kids[i])
		return d
	}
	switch r.Intn(8) {
	case 0:
		d.Rule = r.Int63n(9)
	case 1:
		d.Says.Pre = and(d.Says.Pre, randomCondition(r, g, 2))
	case 2:
		d.Says.Post = or(d.Says.Post, randomCondition(r, g, 2))
	case 3:
		d.Says.Prog = randomProg(r, g, 2)
	case 4:
		d.Kids = append(slices.Clone(d.Kids), node(impl.HrTogether, zero, d.Says.Prog, one))
	case 5:
		d.Kids = d.Kids[:max(0, len(d.Kids)-1)]
	case 6:
		return node(impl.HrTogether, d.Says.Pre, d.Says.Prog, d.Says.Post, d)
	case 7:
		d.Kids = slices.Clone(d.Kids)
		slices.Reverse(d.Kids)
	}
	return d
}

// TestDerivationSizes: 400 and 401 nodes, side by side and in a line; and the
// order of errors.
func TestDerivationSizes(t *testing.T) {
	wide := func(count int) impl.Derivation {
		return node(impl.HrTogether, zero, skip, one, slices.Repeat([]impl.Derivation{node(impl.HrSkip, one, skip, one)}, count-1)...)
	}
	tall := func(count int) impl.Derivation {
		d := node(impl.HrSkip, one, skip, one)
		for range count - 1 {
			d = node(impl.HrTogether, one, skip, one, d)
		}
		return d
	}
	for _, size := range []int{1, 2, 399, 400, 401, 402, 5000} {
		for _, d := range []impl.Derivation{wide(size), tall(size)} {
			wanted := list(size, size, impl.OK)
			if size > 400 {
				wanted = list(size, 0, impl.ErrRange)
			}
			count, code := impl.CheckDerivation(sig22, nil, d)
			want(t, fmt.Sprint(size, " nodes"), list(impl.DerivationSize(d), count, code), wanted)
		}
	}
	wrong := wide(401)
	wrong.Rule = 99
	for name, premises := range badPremises() {
		first, code := impl.CheckDerivation(sig22, premises, wrong)
		second, other := impl.CheckDerivation(sig22, premises, node(impl.HrFail, one, skip, one))
		want(t, name, list(first, code, second, other), list(0, impl.ErrInvalid, 0, impl.ErrInvalid))
	}
	count, code := impl.CheckDerivation(sig22, nil, wrong)
	want(t, "too many nodes, and a wrong one", list(count, code), list(0, impl.ErrRange))
	for _, g := range badSigs {
		count, code := impl.CheckDerivation(g, nil, wrong)
		d, second := impl.FindDerivation(g, nil, triple(one, skip, zero))
		want(t, "a bad signature", list(count, code, d, second), list(0, impl.ErrInvalid, impl.Derivation{}, impl.ErrInvalid))
	}
	want(t, "sizes of any derivation", list(impl.DerivationSize(impl.Derivation{}), impl.DerivationSize(impl.Derivation{Rule: 99, Kids: make([]impl.Derivation, 7)}), impl.DerivationSize(wrong)), "[1 8 401]")
}

// TestDerivedOfTransformed: promise 22 for conditions, words and derivations.
func TestDerivedOfTransformed(t *testing.T) {
	r, counts := rand.New(rand.NewSource(212)), map[int64]int{}
	for i := range 900 {
		g := []impl.Sig{sig12, sig22, {Tests: 3, Actions: 2}}[i%3]
		p, path := randomSite(t, r, g, 1+i%(len(ruleTexts)-1))
		rule := ruleOf(1 + i%(len(ruleTexts)-1))
		q, code := impl.Transform(g, p, path, rule)
		if code != impl.OK {
			continue
		}
		premises := randomPremises(r, g, 4)
		x := randomTriple(r, g, 1)
		x.Prog = p
		if i%2 == 0 {
			x.Pre = and(x.Pre, conditionBy(g, weakestBy(g, premises, p, x.Post)))
		}
		name, y := fmt.Sprint("rule ", rule, " at ", path, " of ", tripleByTable(x)), triple(x.Pre, q, x.Post)
		holding, _ := impl.TripleUnder(g, premises, x)
		again, code := impl.TripleUnder(g, premises, y)
		want(t, name, list(again, code), list(holding, impl.OK))
		v, first := impl.BreakingWord(g, premises, x)
		w, second := impl.BreakingWord(g, premises, y)
		want(t, name+", the word", list(w, second), list(v, first))
		weakest, _ := impl.WeakestUnder(g, premises, p, x.Post)
		other, _ := impl.WeakestUnder(g, premises, q, x.Post)
		strongest, _ := impl.StrongestUnder(g, premises, x.Pre, p)
		another, _ := impl.StrongestUnder(g, premises, x.Pre, q)
		want(t, name+", conditions", list(other, another), list(weakest, strongest))
		_, first = impl.FindDerivation(g, premises, x)
		d, second := impl.FindDerivation(g, premises, y)
		if first != impl.ErrLimit && second != impl.ErrLimit {
			want(t, name+", the code", second, first)
		}
		if second == impl.OK {
			count, code := impl.CheckDerivation(g, premises, d)
			want(t, name+", the derivation", list(count, code), list(impl.DerivationSize(d), impl.OK))
			counts[rule]++
		}
	}
	for rule := int64(1); rule <= 14; rule++ {
		if counts[rule] < 15 {
			t.Errorf("only %d derivations for the rule %d", counts[rule], rule)
		}
	}
}
