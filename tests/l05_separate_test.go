package tests

import (
	"math"
	"math/rand"
	"strings"
	"testing"

	"loop.example/g01101/impl"
)

// This file tests that equations hold in all models and in all costs just if
// both sides are equal, and the models that separate others: promise 12.

// holdsEverywhere looks at an equation whose sides are equal in some models and
// costs of a signature.
func holdsEverywhere(t *testing.T, r *rand.Rand, g impl.Sig, q impl.Equation) {
	t.Helper()
	for points := int64(1); points <= 8; points += 1 + r.Int63n(3) {
		m, c := randomModel(r, g, points), randomCosts(r, g, points)
		yes, first := impl.HoldsIn(m, q)
		same, second := impl.HoldsInCosts(c, q)
		_, _, _, third := impl.FirstPair(m, q)
		if !yes || !same {
			t.Errorf("%s in %s or in %v", impl.EquationText(g, q), modelByTable(m), c)
		}
		want(t, "codes", list(first, second, third), list(impl.OK, impl.OK, impl.ErrNotFound))
	}
}

// TestEqualHolds: instances of axioms and laws, other equal expressions, and
// claims that are checked hold everywhere.
func TestEqualHolds(t *testing.T) {
	r := rand.New(rand.NewSource(90))
	equations := impl.Axioms()
	for _, law := range laws {
		equations = append(equations, impl.Equation{Left: mustExpr(t, wholeSig, law[0]), Right: mustExpr(t, wholeSig, law[1])})
	}
	for _, c := range impl.StandardProof().Claims {
		equations = append(equations, equationOf(c))
	}
	checked := 0
	for i := range 12 * len(equations) {
		g, q := []impl.Sig{sig12, sig11, sig22, {Tests: 2}, sig00, sig34}[i%6], equations[i/12]
		tests, acts := partsFor(r, g, 1+i%3)
		q = impl.Equation{Left: instance(q.Left, tests, acts), Right: instance(q.Right, tests, acts)}
		if impl.ValidEquation(g, q) {
			checked++
			holdsEverywhere(t, r, g, q)
		}
	}
	for i := range 400 {
		g := []impl.Sig{sig12, sig11, sig22, {Tests: 2}, sig00, sig34}[i%6]
		e := randomExpr(r, g, 1+i%5)
		if q := (impl.Equation{Left: e, Right: equalTo(r, g, e)}); impl.ValidEquation(g, q) {
			checked++
			holdsEverywhere(t, r, g, q)
		}
	}
	for _, pair := range equalTexts {
		holdsEverywhere(t, r, sig12, mustEquation(t, sig12, pair[0]+" = "+pair[1]))
	}
	if checked < 1000 {
		t.Errorf("only %d equations", checked)
	}
}

// TestDecidedAndModels: what is decided to be equal holds everywhere, also in
// each small model, and what is not does not hold in its CounterModel.
func TestDecidedAndModels(t *testing.T) {
	r := rand.New(rand.NewSource(91))
	equals, separated, small, tooLong := 0, 0, 0, 0
	for i := range 1200 {
		g := []impl.Sig{sig12, sig11, {Tests: 2, Actions: 1}, sig01, {Tests: 2}, sig00}[i%6]
		e := randomExpr(r, g, 1+i%4)
		f := randomExpr(r, g, 1+i%3)
		if i%4 == 0 {
			f = equalTo(r, g, e)
		}
		q := impl.Equation{Left: e, Right: f}
		w, left, first := impl.FirstDifference(g, e, f)
		m, code := impl.CounterModel(g, q)
		against, second := impl.FirstModelAgainst(g, q, 2)
		if first == impl.ErrNotFound {
			equals++
			holdsEverywhere(t, r, g, q)
			want(t, "no model against "+impl.EquationText(g, q), list(m, code, against, second), list(impl.Model{}, impl.ErrNotFound, impl.Model{}, impl.ErrNotFound))
			continue
		}
		if len(w.Atoms) > impl.MaxPoints || first != impl.OK {
			tooLong++
			want(t, "a long difference", list(m, code), list(impl.Model{}, impl.ErrLimit))
			continue
		}
		separated++
		yes, third := impl.HoldsIn(m, q)
		x, y, inLeft, fourth := impl.FirstPair(m, q) // pairs before the last point have shorter words
		want(t, "counter model of "+impl.EquationText(g, q), list(code, yes, third, x, y, inLeft, fourth), list(impl.OK, false, impl.OK, 0, len(w.Acts), left, impl.OK))
		of, fifth := impl.WordModel(g, w)
		want(t, "the model of the word", list(modelByTable(m), fifth), list(modelByTable(of), impl.OK))
		if second == impl.OK {
			small++
			yes, code := impl.HoldsIn(against, q)
			want(t, "small model against "+impl.EquationText(g, q), list(yes, code), list(false, impl.OK))
		}
	}
	if equals < 200 || separated < 500 || small < 400 || tooLong > 20 {
		t.Errorf("%d equal ones, %d with models, %d with small ones, %d without", equals, separated, small, tooLong)
	}
}

func TestWordModel(t *testing.T) {
	rows := []struct {
		g     impl.Sig
		word  string
		lines []string
	}{
		{sig00, "0", []string{"model 0 0 1"}}, {sig11, "1", []string{"model 1 1 1", "test 1", "act 0"}}, {sig11, "1 a0 0", []string{"model 1 1 2", "test 10", "act 01 00"}},
		{sig22, "2 a1 1 a0 3", []string{"model 2 2 3", "test 011", "test 101", "act 000 001 000", "act 010 000 000"}},
		// An action that occurs more than once leads on from each of its places.
		{sig12, "0 a0 0 a0 0 a1 1 a0 0", []string{"model 1 2 5", "test 00010", "act 01000 00100 00000 00001 00000", "act 00000 00000 00010 00000 00000"}},
		{sig01, "0" + strings.Repeat(" a0 0", 7), []string{"model 0 1 8", "act 01000000 00100000 00010000 00001000 00000100 00000010 00000001 00000000"}},
		{sig34, "7 a3 4 a0 2", []string{"model 3 4 3", "test 100", "test 101", "test 110", "act 000 001 000", "act 000 000 000", "act 000 000 000", "act 010 000 000"}},
	}
	for _, row := range rows {
		m, code := impl.WordModel(row.g, mustWord(t, row.g, row.word))
		want(t, "model of "+row.word, list(modelByTable(m), code), list(strings.Join(row.lines, "\n")+"\n", impl.OK))
	}
	for n, wanted := range map[int]int{7: impl.OK, 8: impl.ErrLimit, 9: impl.ErrLimit, 10: impl.ErrLimit, 11: impl.ErrInvalid} {
		m, code := impl.WordModel(sig12, impl.Word{Atoms: make([]int64, n+1), Acts: make([]int64, n)})
		want(t, "points", list(m.Points, len(m.Tests), len(m.Acts), code), list((n+1)*one01(wanted == impl.OK), one01(wanted == impl.OK), 2*one01(wanted == impl.OK), wanted))
	}
	for name, w := range badWords() {
		m, code := impl.WordModel(sig12, w)
		want(t, name, list(m, code), list(impl.Model{}, impl.ErrInvalid))
	}
	for _, g := range badSigs {
		m, code := impl.WordModel(g, impl.Word{Atoms: []int64{0}})
		want(t, "bad signature", list(m, code), list(impl.Model{}, impl.ErrInvalid))
	}
}

// TestWordsOfTheirModels: the only word from the first to the last point of the
// model of a word is this word.
func TestWordsOfTheirModels(t *testing.T) {
	r := rand.New(rand.NewSource(92))
	has, hasNot := 0, 0
	for i := range 1500 {
		g := []impl.Sig{sig12, sig11, sig22, sig34, sig01}[i%5]
		w, e := randomWord(r, g, i%8), randomExpr(r, g, 2+i%4)
		m, code := impl.WordModel(g, w)
		want(t, "valid", list(impl.ValidModel(m), code), list(true, impl.OK))
		last := m.Points - 1
		all, _ := impl.AllWords(g)
		v, first := impl.WitnessWord(m, all, 0, last)
		runs, second := impl.RunsOf(m, w)
		pairs, third := impl.RelationOf(m, e)
		want(t, "the word", list(impl.WordText(g, v), first, runs[0][last], second), list(impl.WordText(g, w), impl.OK, true, impl.OK))
		want(t, impl.WordText(g, w)+" of "+textOf(e), list(pairs[0][last], third), list(holds(e, w), impl.OK))
		has, hasNot = has+one01(holds(e, w)), hasNot+one01(!holds(e, w))
	}
	if has < 150 || hasNot < 150 {
		t.Errorf("%d words, %d others", has, hasNot)
	}
}

func TestCounterModel(t *testing.T) {
	for _, row := range differences {
		m, code := impl.CounterModel(row.g, mustEquation(t, row.g, row.e+" = "+row.f))
		w := mustWord(t, row.g, row.word)
		if len(w.Atoms) > impl.MaxPoints {
			want(t, row.e+" = "+row.f, list(m, code), list(impl.Model{}, impl.ErrLimit))
			continue
		}
		of, _ := impl.WordModel(row.g, w)
		want(t, row.e+" = "+row.f, list(modelByTable(m), code), list(modelByTable(of), impl.OK))
	}
	m, code := impl.CounterModel(sig12, mustEquation(t, sig12, "((a0 a1) + (a1 t0)) = (a0 a1)"))
	want(t, "a model", list(modelByTable(m), code), list("model 1 2 2\ntest 01\nact 00 00\nact 01 00\n", impl.OK))
	for n, wanted := range map[int]int{1: impl.OK, 7: impl.OK, 8: impl.ErrLimit, 10: impl.ErrLimit, 11: impl.ErrLimit, 59: impl.ErrLimit, 60: impl.ErrLimit} {
		for _, text := range []string{"0 = " + balanced(n, "a0", " "), balanced(n, "a0", " ") + " = 0"} {
			m, code := impl.CounterModel(sig01, mustEquation(t, sig01, text))
			want(t, text, list(m.Points, len(m.Acts), code), list((n+1)*one01(wanted == impl.OK), one01(wanted == impl.OK), wanted))
		}
	}
	for _, pair := range equalTexts {
		m, code := impl.CounterModel(sig12, mustEquation(t, sig12, pair[0]+" = "+pair[1]))
		want(t, pair[0]+" = "+pair[1], list(m, code), list(impl.Model{}, impl.ErrNotFound))
	}
	for name, text := range beyondStates { // also where both sides are the same
		for _, q := range []string{text + " = 1", "1 = " + text, text + " = " + text} {
			m, code := impl.CounterModel(sig11, mustEquation(t, sig11, q))
			want(t, name, list(m, code), list(impl.Model{}, impl.ErrLimit))
		}
	}
	beyond := mustExpr(t, sig11, beyondStates["61 states"])
	for name, e := range badExprs() {
		for _, q := range []impl.Equation{{Left: e, Right: one}, {Left: one, Right: e}, {Left: beyond, Right: e}, {Left: e, Right: beyond}} {
			m, code := impl.CounterModel(sig22, q)
			want(t, name, list(m, code), list(impl.Model{}, impl.ErrInvalid))
			for _, points := range []int64{0, 1, 3} {
				m, code = impl.FirstModelAgainst(sig22, q, points)
				want(t, name, list(m, code), list(impl.Model{}, impl.ErrInvalid))
			}
		}
	}
	for _, g := range badSigs {
		m, first := impl.CounterModel(g, impl.Equation{Left: one, Right: zero})
		n, second := impl.FirstModelAgainst(g, impl.Equation{Left: one, Right: zero}, 1)
		want(t, "bad signature", list(m, first, n, second), list(impl.Model{}, impl.ErrInvalid, impl.Model{}, impl.ErrInvalid))
	}
}

func TestFirstModelAgainst(t *testing.T) {
	two, tests := impl.Sig{Actions: 2}, impl.Sig{Tests: 3}
	rows := []struct {
		g      impl.Sig
		text   string
		points int64
		model  string
	}{
		{sig00, "1 = 0", 3, "model 0 0 1"}, {sig00, "1 = ~0", 3, ""}, {sig01, "a0 = 1", 3, "model 0 1 1 act 0"}, {sig01, "a0 = 0", 3, "model 0 1 1 act 1"},
		{tests, "t0 = 1", 3, "model 3 0 1 test 0 test 0 test 0"}, {tests, "t0 = 0", 3, "model 3 0 1 test 1 test 0 test 0"}, {tests, "t1 = 0", 1, "model 3 0 1 test 0 test 1 test 0"},
		{tests, "t2 = (t1 t2)", 1, "model 3 0 1 test 0 test 0 test 1"}, {tests, "(t0 (t1 t2)) = 0", 1, "model 3 0 1 test 1 test 1 test 1"}, {tests, "(t0 ~t0) = 0", 3, ""},
		{sig11, "(t0 a0) = 0", 3, "model 1 1 1 test 1 act 1"}, {sig11, "(t0 a0) = a0", 3, "model 1 1 1 test 0 act 1"}, {two, "a0 = a1", 2, "model 0 2 1 act 1 act 0"}, {two, "(a1 0) = a1", 2, "model 0 2 1 act 0 act 1"},
		{two, "(a0 a1) = 0", 2, "model 0 2 1 act 1 act 1"}, {sig34, "(t2 a3) = 0", 1, "model 3 4 1 test 0 test 0 test 1 act 0 act 0 act 0 act 1"},
		// One point is not enough.
		{sig01, "a0 = (a0 a0)", 1, ""}, {sig01, "a0 = (a0 a0)", 2, "model 0 1 2 act 01 00"}, {sig01, "(a0 a0) = (a0 (a0 a0))", 3, "model 0 1 2 act 01 10"}, {sig11, "(t0 a0) = (a0 t0)", 1, ""},
		{sig11, "(t0 a0) = (a0 t0)", 2, "model 1 1 2 test 10 act 01 00"}, {sig11, "(a0 t0) = (a0 (t0 t0))", 3, ""}, {two, "(a0 a1) = (a1 a0)", 1, ""}, {two, "(a0 a1) = (a1 a0)", 2, "model 0 2 2 act 01 00 act 10 00"},
		{sig01, "((1 + a0) (1 + a0)) = a0*", 2, ""}, {sig01, "((1 + a0) (1 + a0)) = (1 + a0)", 2, ""}, {sig01, "((1 + a0) (1 + a0)) = (1 + a0)", 3, "model 0 1 3 act 001 100 000"},
		{sig01, "((1 + a0) (1 + a0)) = a0*", 3, ""}, {sig01, "(a0 (a0 a0)) = (a0 (a0 (a0 (a0 a0))))", 2, ""},
		{sig11, "(~t0 (a0 (t0 (a0 ~t0)))) = 0", 3, "model 1 1 2 test 10 act 01 10"}, {sig11, "(t0 (a0 (~t0 (a0 t0)))) = (a0 (a0 ((t0 ~t0) a0)))", 3, "model 1 1 2 test 10 act 01 10"},
	}
	for _, row := range rows {
		m, code := impl.FirstModelAgainst(row.g, mustEquation(t, row.g, row.text), row.points)
		wanted := impl.ErrNotFound
		if row.model != "" {
			wanted = impl.OK
		}
		text := strings.NewReplacer("\n", " ").Replace(strings.TrimSuffix(impl.ModelText(m), "\n"))
		want(t, row.text+" with "+digit(row.points)+" points", list(text, code), list(row.model, wanted))
	}
	for tests := range int64(4) {
		for actions := range int64(5) {
			g := impl.Sig{Tests: tests, Actions: actions}
			for points := int64(1); points <= 3; points++ {
				code := map[bool]int{true: impl.ErrNotFound, false: impl.ErrLimit}[points*(tests+points*actions) <= 12]
				m, got := impl.FirstModelAgainst(g, impl.Equation{Left: one, Right: one}, points)
				want(t, "all models", list(m, got), list(impl.Model{}, code))
				if code == impl.ErrLimit { // although a model with one point would be found
					m, got := impl.FirstModelAgainst(g, impl.Equation{Left: one, Right: zero}, points)
					want(t, "too many bits", list(m, got), list(impl.Model{}, impl.ErrLimit))
				}
			}
			for _, points := range []int64{math.MinInt64, -1, 0, 4, 5, math.MaxInt64} {
				m, code := impl.FirstModelAgainst(g, impl.Equation{Left: one, Right: zero}, points)
				want(t, "points", list(m, code), list(impl.Model{}, impl.ErrRange))
			}
		}
	}
	m, code := impl.FirstModelAgainst(sig11, mustEquation(t, sig11, "0 = "+beyondStates["61 states"]), 3)
	want(t, "without an automaton", list(modelByTable(m), code), list("model 1 1 1\ntest 0\nact 1\n", impl.OK))
}

// TestFirstModelByTrial: the models are tried in their order.
func TestFirstModelByTrial(t *testing.T) {
	r := rand.New(rand.NewSource(93))
	found, none := map[int64]int{}, 0
	shapes := []struct {
		g      impl.Sig
		points int64
	}{{sig01, 3}, {sig11, 2}, {sig12, 1}, {impl.Sig{Tests: 1}, 3}, {impl.Sig{Tests: 3}, 2}, {impl.Sig{Actions: 2}, 2}, {impl.Sig{Tests: 2, Actions: 1}, 2}, {sig34, 1}, {sig01, 3}, {sig12, 2}}
	for i := range 700 {
		shape := shapes[i%len(shapes)]
		e := randomExpr(r, shape.g, 2+i%3)
		f := randomExpr(r, shape.g, 2+i%3)
		if i%2 == 0 { // nearly the same
			f = equalTo(r, shape.g, e)
			f = tree(impl.ESum, f, tree(impl.EDot, randomExpr(r, shape.g, 2), tree(impl.EDot, e, randomExpr(r, shape.g, 1))))
		}
		q := impl.Equation{Left: e, Right: f}
		wanted, code := firstModelByTable(shape.g, q, shape.points)
		m, got := impl.FirstModelAgainst(shape.g, q, shape.points)
		want(t, impl.EquationText(shape.g, q), list(modelByTable(m), got), list(modelByTable(wanted), code))
		found[m.Points]++
		none += one01(code == impl.ErrNotFound)
	}
	if found[1] < 150 || found[2] < 60 || found[3] < 2 || none < 60 {
		t.Errorf("models by their points: %v, and none: %d", found, none)
	}
	for text, points := range map[string]int64{"(t0 (a0 (~t0 (a0 ~t0)))) = 0": 2, "((1 + a0) (1 + a0)) = (1 + (a0 + (t0 a0)))": 3} {
		q := mustEquation(t, sig11, text)
		wanted, code := firstModelByTable(sig11, q, 3)
		m, got := impl.FirstModelAgainst(sig11, q, 3)
		want(t, text, list(m.Points, modelByTable(m), got), list(points, modelByTable(wanted), code))
	}
}
