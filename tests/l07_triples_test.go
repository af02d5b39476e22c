package tests

import (
	"fmt"
	"math"
	"math/rand"
	"slices"
	"strings"
	"testing"

	"loop.example/g01101/impl"
)

// This file tests triples, premises and hypotheses: promise 17.

func TestConditionConstants(t *testing.T) {
	want(t, "limits", list(impl.MaxPremises, impl.MaxHypotheses, impl.MaxDerivation), "[12 4 400]")
	want(t, "rules", list(impl.HrSkip, impl.HrFail, impl.HrAct, impl.HrAssert, impl.HrSeq, impl.HrIf, impl.HrWhile, impl.HrTogether), "[1 2 3 4 5 6 7 8]")
}

func TestValidTriple(t *testing.T) {
	for name, x := range badTriples() {
		want(t, name, list(impl.ValidTriple(sig22, x), impl.TripleText(sig22, x)), list(false, ""))
	}
	for _, p := range goodProgs(t) {
		for _, c := range []impl.Expr{one, test(1), nodesOf(t, test(0), 200), levelsOf(test(1), 40)} {
			for _, x := range []impl.Triple{triple(c, p, zero), triple(zero, p, c), triple(c, p, c)} {
				want(t, "a good one", list(impl.ValidTriple(sig22, x), impl.TripleText(sig22, x)), list(true, tripleByTable(x)))
			}
		}
	}
	for _, g := range badSigs {
		x := triple(one, skip, one)
		want(t, "a bad signature", list(impl.ValidTriple(g, x), impl.TripleText(g, x)), list(false, ""))
	}
	want(t, "numbers and signatures", list(impl.ValidTriple(sig00, triple(one, skip, zero)), impl.ValidTriple(sig00, triple(test(0), skip, zero)), impl.ValidTriple(sig01, triple(one, do(0), test(0))),
		impl.ValidTriple(sig01, triple(one, do(1), one)), impl.ValidTriple(sig34, triple(test(2), do(3), test(2))), impl.ValidTriple(sig34, triple(test(3), do(3), one))), "[true false false false true false]")
	want(t, "a text", impl.TripleText(sig22, triple(or(test(0), not(one)), seq(do(1), loops(1, skip)), zero)), "[(t0 + ~1)] {a1; while t0 do skip od} [0]")
}

func TestValidPremises(t *testing.T) {
	for name, premises := range badPremises() {
		want(t, name, impl.ValidPremises(sig22, premises), false)
	}
	most := slices.Repeat([]impl.Premise{premise(nodesOf(t, test(1), 200), 1, levelsOf(test(0), 40))}, 12)
	want(t, "good ones", list(impl.ValidPremises(sig22, most), impl.ValidPremises(sig22, most[:1]), impl.ValidPremises(sig22, nil), impl.ValidPremises(sig00, []impl.Premise{})), "[true true true true]")
	want(t, "one too many", impl.ValidPremises(sig22, append(most, most[0])), false)
	want(t, "no actions", list(impl.ValidPremises(sig00, []impl.Premise{premise(one, 0, one)}), impl.ValidPremises(sig34, []impl.Premise{premise(one, 3, test(2))}), impl.ValidPremises(sig34, []impl.Premise{premise(one, 4, one)})), "[false true false]")
	for _, g := range badSigs {
		want(t, "a bad signature", list(impl.ValidPremises(g, nil), impl.ValidPremises(g, []impl.Premise{premise(one, 0, one)})), "[false false]")
	}
}

// TestPremiseExpr: the words are the steps that the premise forbids.
func TestPremiseExpr(t *testing.T) {
	for text, wanted := range map[string]string{"[t0] a0 [~t0]": "(t0 (a0 ~~t0))", "[1] a1 [0]": "(1 (a1 ~0))", "[(t0 + t1)] a1 [(t0 t1)]": "((t0 + t1) (a1 ~(t0 t1)))"} {
		e, code := impl.PremiseExpr(sig22, mustPremises(t, sig22, text)[0])
		want(t, text, list(impl.ExprText(sig22, e), code), list(wanted, impl.OK))
	}
	r := rand.New(rand.NewSource(200))
	for range 150 {
		x := premise(randomCondition(r, sig22, 3), r.Int63n(2), randomCondition(r, sig22, 3))
		e, code := impl.PremiseExpr(sig22, x)
		want(t, "a code", code, impl.OK)
		for length := range 3 {
			for _, w := range wordsOfLength(sig22, length) {
				want(t, "forbidden steps", holds(e, w), length == 1 && !allowsWord([]impl.Premise{x}, w))
			}
		}
	}
	for _, row := range []struct {
		name      string
		pre, post impl.Expr
		code      int
	}{
		{"200 nodes", nodesOf(t, one, 98), nodesOf(t, one, 98), impl.OK}, {"201 nodes", nodesOf(t, one, 99), nodesOf(t, one, 98), impl.ErrLimit}, {"201 nodes behind", nodesOf(t, one, 98), nodesOf(t, one, 99), impl.ErrLimit},
		{"most nodes", nodesOf(t, one, 200), nodesOf(t, one, 200), impl.ErrLimit}, {"200 nodes in front", nodesOf(t, one, 195), one, impl.OK},
		{"40 levels in front", levelsOf(one, 39), one, impl.OK}, {"41 levels in front", levelsOf(one, 40), one, impl.ErrLimit}, {"40 levels behind", one, levelsOf(one, 37), impl.OK}, {"41 levels behind", one, levelsOf(one, 38), impl.ErrLimit},
	} {
		x := premise(row.pre, 1, row.post)
		e, code := impl.PremiseExpr(sig22, x)
		wanted := list("none", code)
		if row.code == impl.OK {
			wanted = list(textOf(and(row.pre, and(act(1), not(row.post)))), code)
		}
		want(t, row.name, list(textOf(e), code), wanted)
		want(t, row.name, code, row.code)
	}
	for name, premises := range badPremises() {
		e, code := impl.PremiseExpr(sig22, premises[len(premises)-1])
		if name != "13 premises" {
			want(t, name, list(e, code), list(impl.Expr{}, impl.ErrInvalid))
		}
	}
	for _, g := range badSigs {
		e, code := impl.PremiseExpr(g, premise(nodesOf(t, one, 199), 0, one))
		want(t, "a bad signature", list(e, code), list(impl.Expr{}, impl.ErrInvalid))
	}
}

func TestConditionOf(t *testing.T) {
	for _, row := range []struct {
		g     impl.Sig
		atoms []int64
		text  string
	}{
		{sig22, nil, "0"}, {sig22, []int64{2}, "(0 + (~t0 t1))"}, {sig22, []int64{0, 3}, "((0 + (~t0 ~t1)) + (t0 t1))"}, {sig22, []int64{0, 1, 2, 3}, "((((0 + (~t0 ~t1)) + (t0 ~t1)) + (~t0 t1)) + (t0 t1))"},
		{sig00, []int64{}, "0"}, {sig00, []int64{0}, "(0 + 1)"}, {sig11, []int64{1}, "(0 + t0)"}, {sig11, []int64{0, 1}, "((0 + ~t0) + t0)"}, {sig34, []int64{1, 6}, "((0 + ((t0 ~t1) ~t2)) + ((~t0 t1) t2))"},
	} {
		c, code := impl.ConditionOf(row.g, row.atoms)
		want(t, fmt.Sprint("the condition of ", row.atoms), list(impl.ExprText(row.g, c), code), list(row.text, impl.OK))
	}
	for tests := range int64(4) {
		g := impl.Sig{Tests: tests, Actions: 1}
		for set := range int64(1) << (1 << tests) {
			atoms := []int64{}
			for atom := range int64(1) << tests {
				if set>>atom&1 == 1 {
					atoms = append(atoms, atom)
				}
			}
			c, code := impl.ConditionOf(g, atoms)
			again, second := impl.AtomsOf(g, c)
			want(t, "there and back", list(textOf(c), code, again, second), list(textOf(conditionBy(g, atoms)), impl.OK, atoms, impl.OK))
		}
	}
	for _, atoms := range [][]int64{{-1}, {4}, {0, 4}, {-1, 0}, {0, 0}, {1, 0}, {0, 2, 1}, {1, 2, 2}, {0, 1, 2, 3, 3}, {math.MaxInt64}, {math.MinInt64, 0}, {3, math.MinInt64}, {1 << 32}} {
		c, code := impl.ConditionOf(sig22, atoms)
		want(t, fmt.Sprint("no atoms: ", atoms), list(c, code), list(impl.Expr{}, impl.ErrRange))
	}
	for _, g := range badSigs {
		for _, atoms := range [][]int64{nil, {0}, {1, 0}} {
			c, code := impl.ConditionOf(g, atoms)
			want(t, "a bad signature", list(c, code), list(impl.Expr{}, impl.ErrInvalid))
		}
	}
}

func TestAtomsOfAndImplies(t *testing.T) {
	r, counts := rand.New(rand.NewSource(201)), [2]int{}
	for i := range 600 {
		g := []impl.Sig{sig22, sig34, sig12, sig00}[i%4]
		b, c := randomCondition(r, g, 1+r.Intn(4)), randomCondition(r, g, 1+r.Intn(4))
		atoms, code := impl.AtomsOf(g, b)
		want(t, "atoms of "+textOf(b), list(atoms, code), list(atomsBy(g, b), impl.OK))
		implied, code := impl.Implies(g, b, c)
		wanted := len(atomsBy(g, and(b, not(c)))) == 0
		want(t, textOf(b)+" implies "+textOf(c), list(implied, code), list(wanted, impl.OK))
		counts[one01(implied)]++
	}
	if min(counts[0], counts[1]) < 100 {
		t.Errorf("implied: %v", counts)
	}
	for text, wanted := range map[string]bool{"0 = 0": true, "0 = t1": true, "t0 = 1": true, "1 = t0": false, "(t0 t1) = t0": true, "t0 = (t0 t1)": false, "t0 = (t0 + t1)": true, "1 = (t0 + ~t0)": true, "~(t0 t1) = (~t0 + ~t1)": true, "t0 = t1": false} {
		q := mustEquation(t, sig22, text)
		implied, code := impl.Implies(sig22, q.Left, q.Right)
		want(t, text, list(implied, code), list(wanted, impl.OK))
	}
	for name, e := range badExprs() {
		atoms, first := impl.AtomsOf(sig22, e)
		x, second := impl.Implies(sig22, e, act(0))
		y, third := impl.Implies(sig22, act(0), e)
		want(t, name, list(atoms, first, x, second, y, third), list([]int64{}, 1, false, 1, false, 1))
	}
	for _, e := range []impl.Expr{act(1), tree(impl.EStar, one), or(one, act(0)), and(test(0), tree(impl.EStar, zero))} {
		atoms, first := impl.AtomsOf(sig22, e)
		x, second := impl.Implies(sig22, e, one)
		y, third := impl.Implies(sig22, zero, e)
		want(t, "no condition: "+textOf(e), list(atoms, first, x, second, y, third), list([]int64{}, 4, false, 4, false, 4))
	}
	for _, g := range badSigs {
		atoms, first := impl.AtomsOf(g, one)
		x, second := impl.Implies(g, one, one)
		want(t, "a bad signature", list(atoms, first, x, second), list([]int64{}, 1, false, 1))
	}
}

// tripleRow is a triple with premises, and the first word that breaks it.
type tripleRow struct {
	text     string
	premises []string
	word     string // or none
}

var tripleRows = []tripleRow{
	{"[t0] skip [t0]", nil, ""}, {"[t0] skip [t1]", nil, "1"}, {"[1] skip [0]", nil, "0"}, {"[0] skip [0]", nil, ""}, {"[t1] fail [0]", nil, ""}, {"[1] fail [0]", nil, ""}, {"[0] a0 [0]", nil, ""}, {"[1] a0 [1]", nil, ""}, {"[1] a0 [(t0 + ~t0)]", nil, ""},
	{"[1] assert t0 [t0]", nil, ""}, {"[1] assert t0 [t1]", nil, "1"}, {"[~t0] assert t0 [0]", nil, ""}, {"[t0] a0 [t0]", nil, "1 a0 0"}, {"[t1] a1 [0]", nil, "2 a1 0"}, {"[(t0 t1)] {a1; a0} [t1]", nil, "3 a1 0 a0 0"},
	{"[1] while t0 do a0 od [~t0]", nil, ""}, {"[1] while t0 do a0 od [t1]", nil, "0"}, {"[t0] while t0 do a0 od [t1]", nil, "1 a0 0"}, {"[t0] while t0 do skip od [0]", nil, ""}, {"[1] while 1 do a1 od [0]", nil, ""}, {"[1] while 0 do fail od [t0]", nil, "0"},
	{"[1] if t0 then a0 else skip fi [t1]", nil, "0"}, {"[t0] if t0 then a0 else skip fi [t1]", nil, "1 a0 0"}, {"[1] if t0 then skip else assert 0 fi [t0]", nil, ""}, {"[t0] {while t0 do a0 od; a1} [t0]", nil, "1 a0 0 a1 0"}, {"[1] {assert t0; assert t1} [(t0 t1)]", nil, ""},
	{"[t0] a0 [~t0]", []string{"[t0] a0 [~t0]"}, ""}, {"[t0] a0 [~t0]", []string{"[t0] a1 [~t0]"}, "1 a0 1"}, {"[1] a0 [~t0]", []string{"[t0] a0 [~t0]"}, "0 a0 1"}, {"[t0] a0 [(~t0 t1)]", []string{"[t0] a0 [~t0]"}, "1 a0 0"}, {"[t0] a0 [~t0]", []string{"[(t0 t1)] a0 [~t0]"}, "1 a0 1"},
	{"[t0] a0 [0]", []string{"[t0] a0 [0]"}, ""}, {"[1] a0 [0]", []string{"[1] a0 [0]"}, ""}, {"[1] a0 [t0]", []string{"[0] a0 [0]"}, "0 a0 0"}, {"[1] a0 [t0]", []string{"[0] a0 [t0]", "[1] a0 [1]"}, "0 a0 0"}, {"[1] {a0; a1} [0]", []string{"[1] a1 [0]"}, ""}, {"[1] if t0 then a0 else a1 fi [0]", []string{"[1] a1 [0]"}, "1 a0 0"},
	// Several premises: of the same atoms, of different ones, and of those of which none speaks.
	{"[t0] a0 [(t0 t1)]", []string{"[t0] a0 [t0]", "[t0] a0 [t1]"}, ""}, {"[t0] a0 [(t0 t1)]", []string{"[t0] a0 [t0]", "[t0] a1 [t1]"}, "1 a0 1"}, {"[t0] a0 [(t0 t1)]", []string{"[t0] a0 [t0]", "[~t0] a0 [t1]"}, "1 a0 1"}, {"[t0] a0 [0]", []string{"[t0] a0 [t1]", "[t0] a0 [~t1]"}, ""},
	{"[1] a0 [t1]", []string{"[t0] a0 [t1]", "[~t0] a0 [t1]"}, ""}, {"[1] a0 [t1]", []string{"[(t0 t1)] a0 [t1]", "[~t0] a0 [t1]"}, "1 a0 0"}, {"[1] a0 [(t0 + t1)]", []string{"[t0] a0 [t0]", "[t1] a0 [t1]"}, "0 a0 0"}, {"[(t0 + t1)] a0 [(t0 + t1)]", []string{"[t0] a0 [t0]", "[t1] a0 [t1]"}, ""}, {"[(t0 t1)] a0 [(t0 t1)]", []string{"[t0] a0 [t0]", "[t1] a0 [t1]"}, ""},
	{"[t0] {a0; a0} [t0]", []string{"[t0] a0 [~t0]", "[~t0] a0 [t0]"}, ""}, {"[t0] {a0; a0} [t0]", []string{"[t0] a0 [~t0]", "[(~t0 t1)] a0 [t0]"}, "1 a0 0 a0 0"}, {"[t0] {a0; {a1; a0}} [t0]", []string{"[t0] a0 [~t0]", "[~t0] a0 [t0]"}, "1 a0 0 a1 1 a0 0"},
	{"[t1] while t0 do a0 od [t1]", []string{"[t1] a0 [t1]"}, ""}, {"[t1] while t0 do a0 od [t1]", []string{"[(t0 t1)] a0 [t1]"}, ""}, {"[t1] while t0 do a0 od [t1]", []string{"[(t0 t1)] a0 [t0]"}, "3 a0 1 a0 0"}, {"[t1] while t0 do {a0; a1} od [t1]", []string{"[t1] a0 [t1]"}, "3 a0 2 a1 0"},
}

func TestTriples(t *testing.T) {
	for _, row := range tripleRows {
		x, premises := mustTriple(t, sig22, row.text), mustPremises(t, sig22, row.premises...)
		name := fmt.Sprint(row.text, " under ", row.premises)
		holds, code := impl.TripleUnder(sig22, premises, x)
		want(t, name, list(holds, code), list(row.word == "", impl.OK))
		w, code := impl.BreakingWord(sig22, premises, x)
		wanted := list(row.word, impl.OK)
		if row.word == "" {
			wanted = list("", impl.ErrNotFound)
		}
		want(t, name+", the first word", list(impl.WordText(sig22, w), code), wanted)
		if row.premises == nil {
			holds, code := impl.HoldsTriple(sig22, x)
			want(t, row.text, list(holds, code), list(row.word == "", impl.OK))
		}
	}
}

// TestRandomTriples compares with all words, short ones one by one, and with
// each allowed run; it also has promise 18 for weakest and strongest conditions.
func TestRandomTriples(t *testing.T) {
	r, counts := rand.New(rand.NewSource(202)), [2]int{}
	for i := range 1200 {
		g := []impl.Sig{sig12, sig22, {Tests: 3, Actions: 2}, {Tests: 1, Actions: 4}, sig01}[i%5]
		premises, x := randomPremises(r, g, []int{0, 2, 5, 12}[i%4]), randomTriple(r, g, 1+r.Intn(4))
		if i%3 == 0 {
			x = randomHolding(r, g, premises, 1+r.Intn(4))
		}
		name := fmt.Sprint(tripleByTable(x), " under ", premises)
		broken := checkBroken(t, name, g, premises, x)
		if len(premises) == 0 {
			holds, code := impl.HoldsTriple(g, x)
			want(t, name+", without premises", list(holds, code), list(!broken, impl.OK))
		}
		weakest, first := impl.WeakestUnder(g, premises, x.Prog, x.Post)
		strongest, second := impl.StrongestUnder(g, premises, x.Pre, x.Prog)
		want(t, name+", conditions", list(weakest, first, strongest, second), list(weakestBy(g, premises, x.Prog, x.Post), impl.OK, strongestBy(g, premises, x.Pre, x.Prog), impl.OK))
		implied, _ := impl.Implies(g, x.Pre, conditionBy(g, weakest))
		other, _ := impl.Implies(g, conditionBy(g, strongest), x.Post)
		want(t, name+", decided", list(implied, other), list(!broken, !broken))
		counts[one01(broken)]++
	}
	if min(counts[0], counts[1]) < 300 {
		t.Errorf("broken: %v", counts)
	}
}

// checkBroken looks at whether a triple holds, and at the first word that breaks it.
func checkBroken(t *testing.T, name string, g impl.Sig, premises []impl.Premise, x impl.Triple) bool {
	t.Helper()
	first, broken := breakingBy(g, premises, x)
	holding, code := impl.TripleUnder(g, premises, x)
	want(t, name, list(holding, code), list(!broken, impl.OK))
	w, code := impl.BreakingWord(g, premises, x)
	switch {
	case !broken:
		want(t, name+", the first word", list(w, code), list(impl.Word{}, impl.ErrNotFound))
	case len(first.Acts) > impl.MaxWord:
		want(t, name+", the first word", list(w, code), list(impl.Word{}, impl.ErrLimit))
	default:
		want(t, name+", the first word", list(w, code), list(first, impl.OK))
	}
	e := exprByProg(x.Prog)
	for length := range 3 {
		for _, w := range wordsOfLength(g, length) {
			if isBreaking(premises, x, w) && holds(e, w) {
				want(t, name+", word for word", first, w)
				return broken
			}
		}
	}
	if broken && len(first.Acts) <= impl.MaxWord {
		is, code := impl.Matches(g, e, first)
		want(t, name+", a breaking word", list(isBreaking(premises, x, first), len(first.Acts) > 2, is || code == impl.ErrInvalid), list(true, true, true))
	}
	return broken
}

// counting are premises by which a0 leads from each atom of three tests to the
// next one, and from the last one nowhere.
func counting() []impl.Premise {
	g, premises := sig34, []impl.Premise{}
	for atom := range int64(7) {
		premises = append(premises, premise(conditionOf(g, atom), 0, conditionOf(g, atom+1)))
	}
	return append(premises, premise(conditionOf(g, 7), 0, zero))
}

// TestLongBreakingWords: words of just MaxWord actions, and longer ones.
func TestLongBreakingWords(t *testing.T) {
	last := conditionOf(sig34, 7)
	count := while(not(last), do(0))
	then := func(times int) impl.Prog { return seq(count, evenly(times, do(1))) }
	for _, row := range []struct {
		name     string
		g        impl.Sig
		premises []impl.Premise
		x        impl.Triple
		length   int
	}{
		{"a straight line", sig12, nil, triple(one, evenly(10, do(0)), zero), 10}, {"a longer line", sig12, nil, triple(one, evenly(11, do(0)), zero), 11}, {"the longest line", sig12, nil, triple(one, evenly(30, do(0)), zero), 30},
		{"counted", sig34, counting(), triple(conditionOf(sig34, 0), count, zero), 7}, {"counted from the next to the last", sig34, counting(), triple(or(conditionOf(sig34, 6), conditionOf(sig34, 1)), count, zero), 1},
		{"counted, and three more", sig34, counting(), triple(conditionOf(sig34, 0), then(3), zero), 10}, {"counted, and four more", sig34, counting(), triple(conditionOf(sig34, 0), then(4), zero), 11}, {"from the second atom on", sig34, counting(), triple(conditionOf(sig34, 1), then(4), zero), 10},
		{"counted twice", sig34, append(counting(), premise(one, 1, conditionOf(sig34, 0))), triple(conditionOf(sig34, 0), seq(then(1), count), zero), 15},
		{"counted three times", sig34, append(counting(), premise(last, 1, conditionOf(sig34, 5))), triple(conditionOf(sig34, 4), seq(then(1), then(2)), zero), 8},
	} {
		w, broken := breakingBy(row.g, row.premises, row.x)
		want(t, row.name+", by the definition", list(broken, len(w.Acts)), list(true, row.length))
		holding, code := impl.TripleUnder(row.g, row.premises, row.x)
		want(t, row.name, list(holding, code), list(false, impl.OK))
		got, code := impl.BreakingWord(row.g, row.premises, row.x)
		if row.length > 10 {
			want(t, row.name, list(got, code), list(impl.Word{}, impl.ErrLimit))
		} else {
			want(t, row.name, list(got, code), list(w, impl.OK))
		}
	}
	holding, code := impl.TripleUnder(sig34, counting(), triple(one, count, last))
	_, second := impl.BreakingWord(sig34, counting(), triple(one, count, last))
	want(t, "a long way to nothing", list(holding, code, second), list(true, impl.OK, impl.ErrNotFound))
}

// TestLargePrograms: the words of programs whose expressions are not valid or
// have no automaton, or whose flowcharts are too large.
func TestLargePrograms(t *testing.T) {
	large := nodesOf(t, test(1), 200)
	for name, p := range map[string]impl.Prog{
		"20 levels": loops(19, do(0)), "60 nodes with conditions of 200": while(large, evenly(30, assert(large))), "29 conditions": choices(29, large, do(1)), "29 other conditions": choices(29, large, assert(test(0))),
		"a line of choices": evenly(15, ifThen(large, do(0), do(1))), "89 spots": choices(29, test(0), assert(test(1))), "loops in a line": evenly(12, while(large, while(test(0), do(0)))), "a line of loops": while(test(0), evenly(15, while(not(large.Kids[0]), do(1)))),
	} {
		_, first := impl.ProgExpr(sig22, p)
		_, second := impl.FlowOf(sig22, p)
		want(t, name+" is too large", list(impl.ValidProg(sig22, p), max(first, second)), list(true, impl.ErrLimit))
		for _, premises := range [][]impl.Premise{nil, mustPremises(t, sig22, "[1] a0 [t0]", "[t1] a1 [~t0]"), mustPremises(t, sig22, "[~t0] a0 [t1]", "[t0] a0 [(t0 ~t1)]", "[1] a1 [(t0 + t1)]")} {
			for _, ends := range [][2]impl.Expr{{one, zero}, {one, not(test(1))}, {test(0), test(1)}, {test(1), or(test(0), test(1))}, {not(test(0)), test(0)}, {one, and(not(test(0)), not(test(1)))}} {
				x := triple(ends[0], p, ends[1])
				checkBroken(t, name, sig22, premises, x)
				weakest, first := impl.WeakestUnder(sig22, premises, p, x.Post)
				strongest, second := impl.StrongestUnder(sig22, premises, x.Pre, p)
				want(t, name, list(weakest, first, strongest, second), list(weakestBy(sig22, premises, p, x.Post), impl.OK, strongestBy(sig22, premises, x.Pre, p), impl.OK))
			}
		}
	}
}

// choices are so many choices, each one in the second kid of the one before it
// or in the first one, with equal leaves.
func choices(count int, c impl.Expr, leaf impl.Prog) impl.Prog {
	if count == 0 {
		return leaf
	}
	return ifThen(c, choices((count-1)/2, c, leaf), choices(count-1-(count-1)/2, c, leaf))
}

func TestAllowedNext(t *testing.T) {
	premises := mustPremises(t, sig22, "[t0] a0 [t1]", "[(t0 t1)] a0 [t0]", "[~t0] a1 [0]", "[0] a1 [0]", "[t0] a1 [1]", "[(~t0 ~t1)] a0 [t0]")
	for a, rows := range [][]string{{"[1 3]", "[2 3]", "[0 1 2 3]", "[3]"}, {"[]", "[0 1 2 3]", "[]", "[0 1 2 3]"}} {
		for atom, wanted := range rows {
			atoms, code := impl.AllowedNext(sig22, premises, int64(a), int64(atom))
			want(t, fmt.Sprint("a", a, " behind ", atom), list(fmt.Sprint(atoms), code), list(wanted, impl.OK))
		}
	}
	r := rand.New(rand.NewSource(203))
	for i := range 200 {
		g := []impl.Sig{sig12, sig22, sig34}[i%3]
		premises, a, atom := randomPremises(r, g, []int{0, 4, 12}[r.Intn(3)]), r.Int63n(g.Actions), r.Int63n(1<<g.Tests)
		wanted := []int64{}
		for y := range int64(1) << g.Tests {
			if isAllowed(premises, atom, a, y) {
				wanted = append(wanted, y)
			}
		}
		atoms, code := impl.AllowedNext(g, premises, a, atom)
		want(t, "allowed atoms", list(atoms, code), list(wanted, impl.OK))
	}
	for _, x := range [][2]int64{{-1, 0}, {2, 0}, {0, -1}, {0, 4}, {2, 4}, {math.MaxInt64, 0}, {math.MinInt64, 0}, {0, math.MaxInt64}, {1, math.MinInt64}, {1 << 32, 1}, {1, 1 << 32}} {
		atoms, code := impl.AllowedNext(sig22, premises, x[0], x[1])
		want(t, fmt.Sprint("out of range: ", x), list(atoms, code), list([]int64{}, impl.ErrRange))
	}
	for name, bad := range badPremises() {
		atoms, code := impl.AllowedNext(sig22, bad, 9, 9)
		want(t, name, list(atoms, code), list([]int64{}, impl.ErrInvalid))
	}
	for _, g := range badSigs {
		atoms, code := impl.AllowedNext(g, nil, 0, 0)
		want(t, "a bad signature", list(atoms, code), list([]int64{}, impl.ErrInvalid))
	}
	atoms, code := impl.AllowedNext(sig00, nil, 0, 0)
	other, second := impl.AllowedNext(sig01, nil, 0, 0)
	want(t, "no actions or no tests", list(atoms, code, other, second), list([]int64{}, impl.ErrRange, []int64{0}, impl.OK))
}

// TestWeakestAndStrongest: sets with no atoms, with one and with all of them.
func TestWeakestAndStrongest(t *testing.T) {
	for _, row := range []struct {
		prog, weakest, strongest string // both of t0
		premises                 []string
	}{
		{"skip", "[1 3]", "[1 3]", nil}, {"fail", "[0 1 2 3]", "[]", nil}, {"a0", "[]", "[0 1 2 3]", nil}, {"assert t0", "[0 1 2 3]", "[1 3]", nil}, {"assert ~t0", "[1 3]", "[]", nil}, {"assert t1", "[0 1 3]", "[3]", nil}, {"assert (t1 ~t0)", "[0 1 3]", "[]", nil},
		{"while t1 do skip od", "[1 2 3]", "[1]", nil}, {"while t0 do a0 od", "[]", "[0 2]", nil}, {"while ~t0 do a0 od", "[0 1 2 3]", "[1 3]", nil}, {"{assert (t0 t1); assert ~t0}", "[0 1 2 3]", "[]", nil}, {"if t1 then a0 else fail fi", "[0 1]", "[0 1 2 3]", nil},
		{"a0", "[1 3]", "[1 3]", []string{"[t0] a0 [t0]"}}, {"a0", "[0 1 2 3]", "[]", []string{"[1] a0 [0]"}}, {"a0", "[2]", "[0 1 2 3]", []string{"[(t1 ~t0)] a0 [t0]"}}, {"a0", "[3]", "[1 2 3]", []string{"[t1] a0 [(t0 + ~t1)]", "[t0] a0 [(t0 + t1)]"}}, {"a1", "[]", "[0 1 2 3]", []string{"[t0] a0 [t0]"}},
		{"{a0; a0}", "[1 3]", "[1 3]", []string{"[t0] a0 [~t0]", "[~t0] a0 [t0]"}}, {"{a0; a1}", "[1 3]", "[1 3]", []string{"[t0] a0 [t1]", "[t1] a1 [t0]"}}, {"while t1 do a0 od", "[1 3]", "[1]", []string{"[t0] a0 [t0]"}}, {"while t1 do a0 od", "[1 2 3]", "[1]", []string{"[t1] a0 [t1]", "[t0] a0 [t1]", "[t0] a0 [t0]"}},
	} {
		p, premises, name := mustProg(t, sig22, row.prog), mustPremises(t, sig22, row.premises...), fmt.Sprint(row.prog, " under ", row.premises)
		weakest, first := impl.WeakestUnder(sig22, premises, p, test(0))
		strongest, second := impl.StrongestUnder(sig22, premises, test(0), p)
		want(t, name, list(fmt.Sprint(weakest), first, fmt.Sprint(strongest), second), list(row.weakest, impl.OK, row.strongest, impl.OK))
		all, first := impl.WeakestUnder(sig22, premises, p, one)
		none, second := impl.StrongestUnder(sig22, premises, zero, p)
		want(t, name+", of all and of none", list(fmt.Sprint(all), first, fmt.Sprint(none), second), list("[0 1 2 3]", impl.OK, "[]", impl.OK))
	}
	atoms, code := impl.WeakestUnder(sig00, nil, skip, one)
	none, second := impl.WeakestUnder(sig00, nil, skip, zero)
	want(t, "no tests", list(atoms, code, none, second), list([]int64{0}, impl.OK, []int64{}, impl.OK))
}

func TestTripleErrors(t *testing.T) {
	check := func(name string, g impl.Sig, premises []impl.Premise, x impl.Triple) {
		t.Helper()
		holding, first := impl.TripleUnder(g, premises, x)
		w, second := impl.BreakingWord(g, premises, x)
		d, third := impl.FindDerivation(g, premises, x)
		pairs, fourth := impl.ObligationsOf(g, premises, x, []impl.Expr{one, one, one})
		want(t, name, list(holding, first, w, second, d, third, pairs, fourth), list(false, 1, impl.Word{}, 1, impl.Derivation{}, 1, []impl.Pair{}, 1))
	}
	for name, x := range badTriples() {
		check(name, sig22, nil, x)
		holding, code := impl.HoldsTriple(sig22, x)
		want(t, name, list(holding, code), list(false, impl.ErrInvalid))
	}
	for name, premises := range badPremises() {
		check(name, sig22, premises, triple(one, do(0), zero))
		weakest, first := impl.WeakestUnder(sig22, premises, skip, one)
		strongest, second := impl.StrongestUnder(sig22, premises, one, skip)
		want(t, name, list(weakest, first, strongest, second), list([]int64{}, 1, []int64{}, 1))
	}
	for _, g := range badSigs {
		check("a bad signature", g, nil, triple(one, skip, one))
		holding, first := impl.HoldsTriple(g, triple(one, skip, one))
		weakest, second := impl.WeakestUnder(g, nil, skip, one)
		strongest, third := impl.StrongestUnder(g, nil, one, skip)
		want(t, "a bad signature", list(holding, first, weakest, second, strongest, third), list(false, 1, []int64{}, 1, []int64{}, 1))
	}
	for name, c := range badConditions() {
		weakest, first := impl.WeakestUnder(sig22, nil, skip, c)
		strongest, second := impl.StrongestUnder(sig22, nil, c, skip)
		want(t, name, list(weakest, first, strongest, second), list([]int64{}, 1, []int64{}, 1))
	}
	for name, p := range badProgs() {
		weakest, first := impl.WeakestUnder(sig22, nil, p, one)
		strongest, second := impl.StrongestUnder(sig22, nil, one, p)
		want(t, name, list(weakest, first, strongest, second), list([]int64{}, 1, []int64{}, 1))
	}
}

// TestMostPremises: 12 premises, of which each one matters.
func TestMostPremises(t *testing.T) {
	premises := append(counting(), premise(one, 1, test(0)), premise(one, 1, test(1)), premise(one, 1, test(2)), premise(conditionOf(sig34, 7), 2, zero))
	x := triple(conditionOf(sig34, 0), evenly(7, do(0)), conditionOf(sig34, 7))
	y := triple(one, seq(do(1), do(2)), zero)
	for i := range premises {
		fewer := slices.Delete(slices.Clone(premises), i, i+1)
		first, _ := impl.TripleUnder(sig34, fewer, x)
		second, _ := impl.TripleUnder(sig34, fewer, y)
		want(t, "without premise "+digit(int64(i)), list(first, second), list(i >= 7, i <= 7))
	}
	first, code := impl.TripleUnder(sig34, premises, x)
	second, other := impl.TripleUnder(sig34, premises, y)
	want(t, "with all", list(len(premises), first, code, second, other), list(12, true, impl.OK, true, impl.OK))
}

func TestEqualUnder(t *testing.T) {
	for _, row := range []struct {
		equation   string
		hypotheses []string
		equal      bool
	}{
		{"a0 = a0", nil, true}, {"a0 = a1", nil, false}, {"(a0 a0*) = (a0* a0)", nil, true}, {"a0 = 0", []string{"a0"}, true}, {"a1 = 0", []string{"a0"}, false}, {"(a1 (a0 a1)) = 0", []string{"a0"}, true}, {"(a1 + a0) = a1", []string{"a0"}, true}, {"a0* = 1", []string{"a0"}, true}, {"a0* = 1", []string{"(a0 a0)"}, false}, {"a0* = (1 + a0)", []string{"(a0 a0)"}, true},
		{"(t0 a0) = (t0 (a0 ~t0))", []string{"(t0 (a0 ~~t0))"}, true}, {"(t0 a0) = (t0 (a0 ~t0))", []string{"(t0 (a0 t1))"}, false}, {"a0 = a1", []string{"1"}, true}, {"a0 = a1", []string{"t0", "~t0"}, true}, {"a0 = a1", []string{"t0"}, false}, {"(t0 + a0) = (~t0 (a0 ~t0))", []string{"t0"}, true}, {"1 = ~t0", []string{"t0"}, true}, {"a0 = 0", []string{"0"}, false},
		{"(a0 + a1) = 0", []string{"a0", "a1"}, true}, {"(a0 + a1)* = 1", []string{"a1", "0", "0", "a0"}, true}, {"(a0 (t0 a1)) = (a0 (t1 a1))", []string{"(a0 (t0 ~t1))", "((t1 ~t0) a1)"}, true}, {"(a0 (t0 a1)) = (a0 (t1 a1))", []string{"(a0 (t0 ~t1))"}, false}, {"(a0 (a1 a0)) = 0", []string{"(a1 a1)", "(a0 a0)", "(a1 a0)"}, true},
	} {
		q, hypotheses := mustEquation(t, sig22, row.equation), mustExprs(t, sig22, strings.Join(row.hypotheses, "; "))
		got, code := impl.EqualUnder(sig22, hypotheses, q.Left, q.Right)
		want(t, fmt.Sprint(row.equation, " under ", row.hypotheses), list(got, code), list(row.equal, impl.OK))
		got, code = impl.EqualUnder(sig22, hypotheses, q.Right, q.Left)
		want(t, fmt.Sprint(row.equation, " turned round"), list(got, code), list(row.equal, impl.OK))
	}
	r, counts := rand.New(rand.NewSource(204)), [2]int{}
	for i := range 500 {
		g, hypotheses := []impl.Sig{sig12, sig22, sig01, {Tests: 2}}[i%4], []impl.Expr{}
		for range i % 5 {
			hypotheses = append(hypotheses, randomExpr(r, g, 1+r.Intn(3)))
		}
		e, f := randomExpr(r, g, 1+r.Intn(3)), randomExpr(r, g, 1+r.Intn(3))
		got, code := impl.EqualUnder(g, hypotheses, e, f)
		want(t, "random ones", list(got, code), equalUnderBy(g, hypotheses, e, f))
		counts[one01(got)]++
		differs := func(w impl.Word) bool { return holds(e, w) != holds(f, w) && !hasPart(hypotheses, w) }
		for length := range 4 {
			if got && code == impl.OK && g.Actions < 3 && slices.ContainsFunc(wordsOfLength(g, min(length, int(3*g.Actions))), differs) {
				t.Errorf("%s and %s are not equal under %s", textOf(e), textOf(f), textsOf(hypotheses))
			}
		}
	}
	if min(counts[0], counts[1]) < 100 {
		t.Errorf("equal: %v", counts)
	}
}

func TestEqualUnderLimits(t *testing.T) {
	// For one action, H has 6 nodes and its hypotheses, each with a node more,
	// and is as deep as "(U ((0 + h) U))"; for both sums it is the same.
	many := func(count int) impl.Expr { return nodesOf(t, one, count) }
	for _, row := range []struct {
		name       string
		hypotheses []impl.Expr
		e, f       impl.Expr
		code       int
	}{
		{"200 nodes", nil, many(192), one, impl.OK}, {"201 nodes", nil, many(193), one, impl.ErrLimit}, {"201 nodes of the other one", nil, one, many(193), impl.ErrLimit}, {"200 nodes of the other one", nil, one, many(192), impl.OK},
		{"200 nodes with a hypothesis", []impl.Expr{many(90)}, many(101), zero, impl.OK}, {"201 nodes with a hypothesis", []impl.Expr{many(91)}, many(101), zero, impl.ErrLimit}, {"200 nodes with four", []impl.Expr{one, many(5), one, zero}, zero, many(180), impl.OK}, {"201 nodes with four", []impl.Expr{one, many(6), one, zero}, zero, many(180), impl.ErrLimit},
		{"40 levels", nil, levelsOf(one, 39), zero, impl.OK}, {"41 levels", nil, levelsOf(one, 40), zero, impl.ErrLimit}, {"41 levels of the other one", nil, zero, levelsOf(one, 40), impl.ErrLimit}, {"40 levels of a hypothesis", []impl.Expr{levelsOf(one, 36)}, zero, one, impl.OK}, {"41 levels of a hypothesis", []impl.Expr{levelsOf(one, 37)}, zero, one, impl.ErrLimit},
		{"40 levels of the first one of four", []impl.Expr{levelsOf(one, 33), one, one, one}, zero, one, impl.OK}, {"41 levels of the first one of four", []impl.Expr{levelsOf(one, 34), one, one, one}, zero, one, impl.ErrLimit},
		{"60 states", nil, mustExpr(t, sig01, balanced(59, "a0", " ")), one, impl.OK}, {"61 states", nil, mustExpr(t, sig01, balanced(60, "a0", " ")), one, impl.ErrLimit}, {"61 states of the other one", nil, one, mustExpr(t, sig01, balanced(60, "a0", " ")), impl.ErrLimit}, {"61 states of both", nil, mustExpr(t, sig01, balanced(60, "a0", " ")), mustExpr(t, sig01, balanced(60, "a0", " ")), impl.ErrLimit},
		{"many states of a hypothesis", []impl.Expr{mustExpr(t, sig01, balanced(60, "a0", " "))}, one, zero, impl.ErrLimit},
	} {
		got, code := impl.EqualUnder(sig01, row.hypotheses, row.e, row.f)
		want(t, row.name, code, row.code)
		want(t, row.name, list(got, code), equalUnderBy(sig01, row.hypotheses, row.e, row.f))
	}
	four := slices.Repeat([]impl.Expr{act(0)}, 4)
	got, code := impl.EqualUnder(sig01, four, act(0), zero)
	other, second := impl.EqualUnder(sig01, append(four, act(0)), act(0), zero)
	large, third := impl.EqualUnder(sig01, append(four, act(0)), many(200), many(200))
	want(t, "four and five hypotheses", list(got, code, other, second, large, third), list(true, impl.OK, false, impl.ErrRange, false, impl.ErrRange))
	for name, e := range badExprs() {
		for i, hypotheses := range [][]impl.Expr{nil, nil, {e}, {one, one, one, e}, append(slices.Clone(four), e)} {
			left, right := []impl.Expr{e, one, one, one, many(200)}[i], []impl.Expr{one, e, one, one, one}[i]
			got, code := impl.EqualUnder(sig22, hypotheses, left, right)
			want(t, name, list(got, code), list(false, impl.ErrInvalid))
		}
	}
	for _, g := range badSigs {
		got, code := impl.EqualUnder(g, nil, one, one)
		want(t, "a bad signature", list(got, code), list(false, impl.ErrInvalid))
	}
}

// TestPremisesAreHypotheses: a triple holds under premises just if what breaks
// it has no words under the hypotheses that are their expressions.
func TestPremisesAreHypotheses(t *testing.T) {
	r, counts := rand.New(rand.NewSource(205)), [2]int{}
	for i := range 600 {
		g := []impl.Sig{sig12, sig22, sig11}[i%3]
		premises, hypotheses := randomPremises(r, g, 4), []impl.Expr{}
		for _, x := range premises {
			e, _ := impl.PremiseExpr(g, x)
			hypotheses = append(hypotheses, e)
		}
		x := randomTriple(r, g, 1+r.Intn(3))
		if i%2 == 0 {
			x = randomHolding(r, g, premises, 1+r.Intn(3))
		}
		equal, code := impl.EqualUnder(g, hypotheses, and(x.Pre, and(exprByProg(x.Prog), not(x.Post))), zero)
		if code == impl.ErrLimit {
			continue
		}
		holding, second := impl.TripleUnder(g, premises, x)
		want(t, fmt.Sprint(tripleByTable(x), " under ", textsOf(hypotheses)), list(equal, code), list(holding, second))
		counts[one01(holding)]++
	}
	if min(counts[0], counts[1]) < 100 {
		t.Errorf("holding: %v", counts)
	}
}

func TestModelsPremises(t *testing.T) {
	w := impl.World{Atoms: []int64{1, 1, 0}, Acts: [][]int64{{1, 2, -1}, {0, -1, 1}}}
	for _, row := range []struct {
		premises []string
		models   bool
	}{
		{nil, true}, {[]string{"[1] a0 [1]"}, true}, {[]string{"[0] a0 [0]"}, true}, {[]string{"[t0] a0 [t0]"}, false}, {[]string{"[t0] a0 [~t0]"}, false}, {[]string{"[~t0] a0 [0]"}, true}, {[]string{"[~t0] a1 [t0]"}, true}, {[]string{"[~t0] a1 [0]"}, false}, {[]string{"[1] a1 [t0]"}, true}, {[]string{"[1] a0 [t0]"}, false},
		{[]string{"[t0] a1 [t0]", "[~t0] a0 [0]"}, true}, {[]string{"[t0] a1 [t0]", "[t0] a0 [t0]"}, false}, {[]string{"[t0] a0 [t0]", "[t0] a1 [t0]"}, false}, {[]string{"[1] a0 [0]"}, false},
	} {
		models, code := impl.ModelsPremises(sig12, w, mustPremises(t, sig12, row.premises...))
		want(t, fmt.Sprint(row.premises), list(models, code), list(row.models, impl.OK))
	}
	r, counts := rand.New(rand.NewSource(206)), [2]int{}
	for i := range 600 {
		g := []impl.Sig{sig12, sig22, sig34}[i%3]
		premises, w := randomPremises(r, g, 5), randomWorld(r, g, int64(1+i%12))
		if i%2 == 0 {
			w = worldUnder(r, g, premises, int64(1+i%12))
		}
		models, code := impl.ModelsPremises(g, w, premises)
		want(t, "random ones", list(models, code), list(modelsBy(w, premises), impl.OK))
		counts[one01(models)]++
	}
	if min(counts[0], counts[1]) < 100 {
		t.Errorf("models: %v", counts)
	}
	for name, bad := range badWorlds() {
		models, code := impl.ModelsPremises(sig22, bad, nil)
		want(t, name, list(models, code), list(false, impl.ErrInvalid))
	}
	for name, bad := range badPremises() {
		models, code := impl.ModelsPremises(sig22, lineWorld(sig22, 3), bad)
		want(t, name, list(models, code), list(false, impl.ErrInvalid))
	}
	for _, g := range badSigs {
		models, code := impl.ModelsPremises(g, impl.World{Atoms: []int64{0}}, nil)
		want(t, "a bad signature", list(models, code), list(false, impl.ErrInvalid))
	}
	models, code := impl.ModelsPremises(sig22, lineWorld(sig22, 12), slices.Repeat([]impl.Premise{premise(one, 0, one)}, 12))
	want(t, "12 states and 12 premises", list(models, code), list(true, impl.OK))
}
