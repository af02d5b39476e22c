package tests

import (
	"math/rand"
	"slices"
	"strings"
	"testing"

	"loop.example/g01101/impl"
)

// This file tests bisimulations, which are found and checked just for equal
// expressions: promise 6.

// pairsOf reads pairs of valid expressions, one in a line as in BisimText.
func pairsOf(t *testing.T, g impl.Sig, lines ...string) []impl.Pair {
	t.Helper()
	pairs := []impl.Pair{}
	for _, line := range lines {
		left, right, _ := strings.Cut(line, " = ")
		pairs = append(pairs, impl.Pair{Left: mustExpr(t, g, left), Right: mustExpr(t, g, right)})
	}
	return pairs
}

func TestFindBisim(t *testing.T) {
	rows := []struct {
		g    impl.Sig
		e, f string
		text string
	}{
		{sig01, "a0*", "(1 + (a0 a0*))", "a0* = ((a0 a0*) + 1)|a0* = a0*"},
		{sig01, "(1 + (a0 a0*))", "a0*", "((a0 a0*) + 1) = a0*|a0* = a0*"},
		{sig00, "1", "~0", "1 = ~0"}, {sig00, "(0 + 0)", "~1", "0 = ~1"}, {impl.Sig{Tests: 1}, "(t0 + ~t0)", "1", "(t0 + ~t0) = 1"},
		{sig01, "0", "0", "0 = 0"}, {sig01, "0", "~1", "0 = ~1|0 = 0"}, {sig01, "~1", "0", "~1 = 0|0 = 0"}, {sig01, "1", "1", "1 = 1|0 = 0"},
		{sig01, "a0", "a0", "a0 = a0|1 = 1|0 = 0"}, {sig01, "(a0 0)", "(0 a0)", "0 = 0"}, {sig01, "(a0 ~1)", "0", "(a0 ~1) = 0|~1 = 0|0 = 0"},
		{sig01, "0", "(a0 ~1)", "0 = (a0 ~1)|0 = ~1|0 = 0"}, {sig01, "(1 a0)", "(a0 + a0)", "a0 = a0|1 = 1|0 = 0"},
		{sig11, "(t0 a0)", "(t0 (t0 a0))", "(t0 a0) = (t0 (t0 a0))|0 = 0|1 = 1"},
		{sig11, "(t0 (a0 ~t0))", "((t0 a0) ~t0)", "(t0 (a0 ~t0)) = (t0 (a0 ~t0))|0 = 0|~t0 = ~t0"},
		{sig12, "((a0 a1) + (a1 a0))", "((a1 a0) + (a0 a1))", "((a0 a1) + (a1 a0)) = ((a0 a1) + (a1 a0))|a1 = a1|a0 = a0|0 = 0|1 = 1"},
		{sig12, "(~t0 a1)", "(a1 0)", ""}, {sig01, "a0", "1", ""}, {sig01, "a0*", "(a0 a0)*", ""},
		{sig12, "((a0 a1)* a0)", "(a0 (a1 a0)*)", "((a0 a1)* a0) = (a0 (a1 a0)*)|((a1 ((a0 a1)* a0)) + 1) = (a1 a0)*|0 = 0"},
	}
	for _, r := range rows {
		e, f := mustExpr(t, r.g, r.e), mustExpr(t, r.g, r.f)
		found, code := impl.FindBisim(r.g, e, f)
		if r.text == "" {
			want(t, r.e+" and "+r.f, list(found, code), list([]impl.Pair{}, impl.ErrNotFound))
			continue
		}
		text := strings.ReplaceAll(r.text, "|", "\n") + "\n"
		want(t, r.e+" and "+r.f, list(impl.BisimText(r.g, found), code), list(text, impl.OK))
		yes, code := impl.CheckBisim(r.g, e, f, found)
		want(t, "checked "+r.e+" and "+r.f, list(yes, code), list(true, impl.OK))
	}
	for _, pair := range equalTexts {
		e, f := mustExpr(t, sig12, pair[0]), mustExpr(t, sig12, pair[1])
		found, code := impl.FindBisim(sig12, e, f)
		want(t, pair[0]+" = "+pair[1], list(impl.BisimText(sig12, found), code), list(pairsText(bisimOf(sig12, e, f)), impl.OK))
		yes, code := impl.CheckBisim(sig12, e, f, found)
		want(t, pair[0]+" = "+pair[1], list(yes, code), list(true, impl.OK))
	}
}

// TestBisimByDefinition: random expressions; each list that is found is a
// bisimulation, and one that is changed just if the definition says so.
func TestBisimByDefinition(t *testing.T) {
	r := rand.New(rand.NewSource(42))
	equals, accepted, refused := 0, 0, 0
	for i := range 500 {
		g := []impl.Sig{sig11, sig12, {Tests: 0, Actions: 2}, {Tests: 2, Actions: 1}, {Tests: 2}}[i%5]
		e := randomExpr(r, g, 2+i%2)
		f := equalTo(r, g, e)
		if i%4 == 0 {
			f = randomExpr(r, g, 2+i%2)
		}
		yes, code := impl.EqualExprs(g, e, f)
		if code == impl.ErrLimit || !impl.ValidExpr(g, f) {
			continue
		}
		made := bisimOf(g, e, f)
		found, code := impl.FindBisim(g, e, f)
		good, second := impl.CheckBisim(g, e, f, made)
		want(t, "the list is right just for equal ones: "+textOf(e)+" and "+textOf(f), list(good, second), list(yes, impl.OK))
		if !yes {
			want(t, "not equal "+textOf(e)+" and "+textOf(f), list(found, code), list([]impl.Pair{}, impl.ErrNotFound))
			continue
		}
		equals++
		want(t, "found for "+textOf(e)+" and "+textOf(f), list(pairsText(found), code), list(pairsText(made), impl.OK))
		for range 12 {
			changed := changedPairs(r, g, found)
			expected, first := isBisim(g, e, f, changed)
			got, second := impl.CheckBisim(g, e, f, changed)
			want(t, "changed list "+pairsText(changed), list(got, second), list(expected, first))
			accepted += one01(got)
			refused += one01(!got)
		}
	}
	if equals < 150 || accepted < 300 || refused < 300 {
		t.Errorf("%d equal ones, %d accepted and %d refused lists are too few", equals, accepted, refused)
	}
}

// equalTo returns another expression with the same words.
func equalTo(r *rand.Rand, g impl.Sig, e impl.Expr) impl.Expr {
	other := e
	switch r.Intn(6) {
	case 0:
		other = tree(impl.ESum, e, zero)
	case 1:
		other = tree(impl.EDot, tree(impl.ESum, e, e), one)
	case 2:
		other = tree(impl.ESum, tree(impl.EDot, e, zero), tree(impl.EDot, one, e))
	case 3:
		c := randomCondition(r, g, 2)
		other = tree(impl.ESum, tree(impl.EDot, c, e), tree(impl.EDot, tree(impl.ENot, c), e))
	case 4:
		c := randomCondition(r, g, 2)
		other = tree(impl.ESum, tree(impl.EDot, e, c), tree(impl.EDot, e, tree(impl.ENot, c)))
	}
	if e.Kind == impl.EStar {
		other = tree(impl.ESum, one, tree(impl.EDot, e.Kids[0], other))
	}
	return other
}

// changedPairs returns a list to which something has been done.
func changedPairs(r *rand.Rand, g impl.Sig, found []impl.Pair) []impl.Pair {
	pairs := slices.Clone(found)
	i, k := r.Intn(len(pairs)), r.Intn(len(pairs))
	switch r.Intn(9) {
	case 0:
		return slices.Delete(pairs, i, i+1)
	case 1:
		pairs[i].Left, pairs[i].Right = pairs[i].Right, pairs[i].Left
	case 2:
		pairs[i], pairs[k] = pairs[k], pairs[i]
	case 3:
		return append(pairs, pairs[i])
	case 4:
		e := randomExpr(r, g, 2)
		return append(pairs, impl.Pair{Left: e, Right: e})
	case 5:
		return append([]impl.Pair{{Left: tree(impl.ESum, pairs[i].Left, zero), Right: tree(impl.EDot, pairs[i].Right, one)}}, pairs...)
	case 6:
		pairs[i].Left = pairs[k].Left
	case 7:
		return append(pairs, impl.Pair{Left: pairs[i].Left, Right: pairs[k].Right})
	case 8:
		for n := range pairs {
			pairs = append(pairs, impl.Pair{Left: pairs[n].Right, Right: pairs[n].Left})
		}
	}
	return pairs
}

func TestCheckBisim(t *testing.T) {
	loop, unrolled := []string{"a0*", "((a0 a0*) + 1)"}, "a0* = ((a0 a0*) + 1)"
	rows := []struct {
		name  string
		g     impl.Sig
		e, f  string
		pairs []string
		yes   bool
	}{
		{"right", sig01, loop[0], loop[1], []string{unrolled, "a0* = a0*"}, true},
		{"in another order", sig01, loop[0], loop[1], []string{"a0* = a0*", unrolled}, true},
		{"twice", sig01, loop[0], loop[1], []string{unrolled, unrolled, "a0* = a0*", "a0* = a0*"}, true},
		{"for expressions that are not tidy", sig01, "(a0* + 0)", "(1 + (a0 a0*))", []string{unrolled, "a0* = a0*"}, true},
		{"with others that are equal", sig01, loop[0], loop[1], []string{unrolled, "a0* = a0*", "a0 = a0", "1 = 1", "0 = 0"}, true},
		{"with one of another form", sig01, loop[0], loop[1], []string{unrolled, "a0* = a0*", "(a0 + 0)* = (a0 + a0)*"}, true},
		{"with others that are not equal", sig01, loop[0], loop[1], []string{unrolled, "a0* = a0*", "a0 = 0", "1 = 0", "0 = 0"}, false},
		{"with others whose derivatives are missing", sig01, loop[0], loop[1], []string{unrolled, "a0* = a0*", "a0 = a0"}, false},
		{"without pairs", sig01, loop[0], loop[1], nil, false},
		{"without the first pair", sig01, loop[0], loop[1], []string{"a0* = a0*"}, false},
		{"without the second pair", sig01, loop[0], loop[1], []string{unrolled}, false},
		{"the other way round", sig01, loop[0], loop[1], []string{"((a0 a0*) + 1) = a0*", "a0* = a0*"}, false},
		{"the other way round for the other order", sig01, loop[1], loop[0], []string{"((a0 a0*) + 1) = a0*", "a0* = a0*"}, true},
		{"not the tidy form", sig01, loop[0], "(1 + (a0 a0*))", []string{"a0* = (1 + (a0 a0*))", "a0* = a0*"}, false},
		{"the tidy form for what is not tidy", sig01, "(1 + (a0 a0*))", "(1 + (a0 a0*))", []string{"((a0 a0*) + 1) = ((a0 a0*) + 1)", "a0* = a0*"}, true},
		{"without the pair of zeros", sig01, "a0", "a0", []string{"a0 = a0", "1 = 1"}, false},
		{"with the pair of zeros", sig01, "a0", "a0", []string{"a0 = a0", "1 = 1", "0 = 0"}, true},
		{"what is dead is not zero", sig11, "(a0 (t0 ~t0))", "0", []string{"(a0 (t0 ~t0)) = 0", "(t0 ~t0) = 0", "0 = 0"}, true},
		{"what is dead is not zero", sig11, "(a0 (t0 ~t0))", "0", []string{"(a0 (t0 ~t0)) = 0", "0 = 0"}, false},
		{"a derivative the other way round", sig11, "(a0 (t0 ~t0))", "0", []string{"(a0 (t0 ~t0)) = 0", "0 = (t0 ~t0)", "0 = 0"}, false},
		{"a derivative the other way round, too", sig11, "(a0 (t0 ~t0))", "0", []string{"(a0 (t0 ~t0)) = 0", "(t0 ~t0) = 0", "0 = (t0 ~t0)", "0 = 0"}, true},
		{"without actions", impl.Sig{Tests: 1}, "(t0 + ~t0)", "1", []string{"(t0 + ~t0) = 1"}, true},
		{"without actions, one atom differs", impl.Sig{Tests: 1}, "t0", "1", []string{"t0 = 1"}, false},
		{"without actions, pairs that are not come to count too", impl.Sig{Tests: 1}, "1", "1", []string{"1 = 1", "0 = 0", "t0 = ~t0"}, false},
		{"the last atom differs", impl.Sig{Tests: 2, Actions: 1}, "1", "~(t0 t1)", []string{"1 = ~(t0 t1)", "0 = 0"}, false},
		{"an action at one atom", sig11, "a0", "(t0 a0)", []string{"a0 = (t0 a0)", "1 = 1", "0 = 0"}, false},
		{"an action at one atom, with what differs", sig11, "a0", "(t0 a0)", []string{"a0 = (t0 a0)", "1 = 0", "1 = 1", "0 = 0"}, false},
		{"another action", sig12, "(a0 + a1)", "a0", []string{"(a0 + a1) = a0", "1 = 1", "0 = 0"}, false},
		{"nothing to do with it", sig01, "a0", "a0", []string{"1 = 1", "0 = 0"}, false},
	}
	for _, r := range rows {
		got, code := impl.CheckBisim(r.g, mustExpr(t, r.g, r.e), mustExpr(t, r.g, r.f), pairsOf(t, r.g, r.pairs...))
		want(t, r.name, list(got, code), list(r.yes, impl.OK))
	}
}

// largePair returns a pair of equal sides of so many nodes, as deep as that.
func largePair(nodes int) impl.Pair {
	return impl.Pair{Left: nested(impl.ENot, nodes-1, one), Right: nested(impl.ENot, nodes-1, one)}
}

// TestBisimForm: sides may be larger and deeper than valid expressions, up to
// MaxDerived nodes, but have to have the form of one.
func TestBisimForm(t *testing.T) {
	e, g := one, impl.Sig{Tests: 2, Actions: 2}
	base := pairsOf(t, g, "1 = 1", "0 = 0")
	check := func(name string, p impl.Pair, yes bool, code int) {
		t.Helper()
		for _, pairs := range [][]impl.Pair{append([]impl.Pair{p}, base...), append(slices.Clone(base), p)} {
			got, c := impl.CheckBisim(g, e, e, pairs)
			want(t, name, list(got, c), list(yes, code))
			text := ""
			if code != impl.ErrInvalid {
				text = pairsText(pairs)
			}
			want(t, "text, "+name, impl.BisimText(g, pairs), text)
		}
	}
	for _, nodes := range []int{40, 41, 42, 200, 201, 799, 800} {
		check("deep", largePair(nodes), true, impl.OK)
		check("deep, and one", impl.Pair{Left: largePair(nodes).Left, Right: one}, nodes%2 == 1, impl.OK)
	}
	check("801 nodes", largePair(801), false, impl.ErrInvalid)
	check("801 nodes on the left", impl.Pair{Left: largePair(801).Left, Right: one}, false, impl.ErrInvalid)
	check("801 nodes on the right", impl.Pair{Left: one, Right: largePair(801).Left}, false, impl.ErrInvalid)
	check("very many nodes", largePair(9_999), false, impl.ErrInvalid)
	wide := one
	for range 399 {
		wide = tree(impl.ESum, one, wide)
	}
	check("799 nodes", impl.Pair{Left: wide, Right: one}, true, impl.OK)
	check("800 nodes", impl.Pair{Left: tree(impl.ESum, nested(impl.ENot, 1, one), wide.Kids[1]), Right: one}, true, impl.OK)
	check("801 nodes that are wide", impl.Pair{Left: one, Right: tree(impl.ESum, one, wide)}, false, impl.ErrInvalid)
	for name, bad := range badExprs() {
		check(name+" on the left", impl.Pair{Left: bad, Right: one}, false, impl.ErrInvalid)
		check(name+" on the right", impl.Pair{Left: one, Right: bad}, false, impl.ErrInvalid)
	}
	stars, products := nested(impl.EStar, 50, act(0)), act(0)
	for range 60 {
		products = tree(impl.EDot, products, zero)
	}
	check("deep in stars, whose derivative is no side", impl.Pair{Left: stars, Right: stars}, false, impl.OK)
	check("a long product that comes to nothing", impl.Pair{Left: products, Right: zero}, true, impl.OK)
	check("a long product that comes to nothing", impl.Pair{Left: products, Right: products}, true, impl.OK)
}

func TestCheckBisimErrors(t *testing.T) {
	base := pairsOf(t, sig01, "a0 = a0", "1 = 1", "0 = 0")
	limit, beyond := mustExpr(t, sig01, derivedChain(15, map[int]int{6: 1, 15: 1})), mustExpr(t, sig01, derivedChain(15, map[int]int{7: 1, 15: 1}))
	after, _ := impl.Derive(sig01, limit, 0, 0)
	with := func(pairs ...impl.Pair) []impl.Pair { return append(slices.Clone(base), pairs...) }
	many := func(times int, p ...impl.Pair) []impl.Pair {
		return append(slices.Repeat(base[1:2], times), with(p...)...)
	}
	rows := []struct {
		name  string
		e     impl.Expr
		pairs []impl.Pair
		yes   bool
		code  int
	}{
		{"right", act(0), base, true, impl.OK},
		{"400 pairs", act(0), many(397), true, impl.OK}, {"401 pairs", act(0), many(398), false, impl.ErrRange},
		{"many pairs", act(0), many(99_999), false, impl.ErrRange}, {"400 wrong pairs", act(0), slices.Repeat(base[:1], 400), false, impl.OK},
		{"401 pairs, the last one invalid", act(0), many(397, impl.Pair{Left: one}), false, impl.ErrInvalid},
		{"401 pairs, the last one too large", act(0), many(397, largePair(801)), false, impl.ErrInvalid},
		{"401 pairs, the last one with a limit", act(0), many(397, impl.Pair{Left: beyond, Right: beyond}), false, impl.ErrRange},
		{"400 pairs, the last one with a limit", act(0), many(396, impl.Pair{Left: beyond, Right: one}), false, impl.ErrLimit},
		{"a limit on the left", act(0), with(impl.Pair{Left: beyond, Right: one}), false, impl.ErrLimit},
		{"a limit on the right", act(0), with(impl.Pair{Left: one, Right: beyond}), false, impl.ErrLimit},
		{"a limit and nothing right", act(0), []impl.Pair{{Left: act(0), Right: zero}, {Left: one, Right: beyond}}, false, impl.ErrLimit},
		{"a limit only behind a step", act(0), with(impl.Pair{Left: tree(impl.EDot, act(0), beyond), Right: one}), false, impl.OK},
		{"a derivative of 800 nodes that is no side", act(0), with(impl.Pair{Left: limit, Right: limit}), false, impl.OK},
		{"a derivative of 800 nodes as a side", act(0), with(impl.Pair{Left: limit, Right: limit}, impl.Pair{Left: after, Right: after}), true, impl.OK},
		{"801 nodes before they are tidy", act(0), with(impl.Pair{Left: tree(impl.ESum, limit, zero), Right: one}), false, impl.ErrLimit},
		{"expressions with a limit, no pairs", beyond, nil, false, impl.OK},
		{"expressions with a limit, right but for it", beyond, with(impl.Pair{Left: beyond, Right: beyond}), false, impl.ErrLimit},
		{"expressions with more states than are allowed", mustExpr(t, sig01, balanced(60, "a0", " ")), chainPairs(60), true, impl.OK},
		{"with one pair less", mustExpr(t, sig01, balanced(60, "a0", " ")), chainPairs(60)[1:], false, impl.OK},
		{"an invalid expression and 401 pairs", tree(impl.EAct), many(398), false, impl.ErrRange},
	}
	for _, r := range rows {
		got, code := impl.CheckBisim(sig01, r.e, r.e, r.pairs)
		want(t, r.name, list(got, code), list(r.yes, r.code))
	}
	for name, bad := range badExprs() {
		for _, pairs := range [][]impl.Pair{nil, base, many(398), with(impl.Pair{Left: beyond, Right: one})} {
			_, first := impl.CheckBisim(impl.Sig{Tests: 2, Actions: 2}, bad, one, pairs)
			got, second := impl.CheckBisim(impl.Sig{Tests: 2, Actions: 2}, one, bad, pairs)
			want(t, name, list(first, got, second), list(impl.ErrInvalid, false, impl.ErrInvalid))
		}
	}
	for _, g := range badSigs {
		got, code := impl.CheckBisim(g, one, one, base[1:])
		want(t, "bad signature", list(got, code, impl.BisimText(g, base[1:]), impl.BisimText(g, nil)), list(false, impl.ErrInvalid, "", ""))
	}
	deep := nested(impl.ENot, impl.MaxDepth, one)
	got, code := impl.CheckBisim(sig01, deep, deep, []impl.Pair{{Left: deep, Right: deep}, {Left: zero, Right: zero}})
	want(t, "a side may be so deep, an expression not", list(got, code), list(false, impl.ErrInvalid))
}

// TestCheckBisimDerived: it counts how large the expressions of the table are
// before they are made tidy, also where a side itself is not tidy.
func TestCheckBisimDerived(t *testing.T) {
	sides := map[string]func(part impl.Expr) impl.Expr{
		"star":    func(part impl.Expr) impl.Expr { return tree(impl.EStar, tree(impl.EDot, act(0), part)) },
		"product": func(part impl.Expr) impl.Expr { return tree(impl.EDot, nested(impl.EStar, 2, act(0)), part) },
		"sum": func(part impl.Expr) impl.Expr {
			return tree(impl.ESum, tree(impl.EDot, act(0), part), tree(impl.EStar, act(0)))
		},
		"second": func(part impl.Expr) impl.Expr {
			return tree(impl.EDot, tree(impl.EDot, nested(impl.EStar, 3, act(0)), act(0)), part)
		},
	}
	for name, side := range sides {
		codes := map[int]int{}
		for nodes := 390; nodes < 800; nodes++ {
			e := side(tree(impl.ESum, nested(impl.ENot, nodes, one), zero))
			if impl.ExprSize(e) > impl.MaxDerived {
				break
			}
			_, ok := derived(e, 0, 0)
			codes[one01(ok)]++
			if codes[0] > 2 {
				break
			}
			for _, p := range []impl.Pair{{Left: e, Right: one}, {Left: one, Right: e}} {
				yes, code := impl.CheckBisim(sig01, one, one, []impl.Pair{p})
				want(t, name, list(yes, code), list(false, []int{impl.ErrLimit, impl.OK}[one01(ok)]))
			}
		}
		want(t, name+": within the limit, and beyond", list(codes[0] > 0, codes[1] > 0), list(name != "sum", true))
	}
}

// chainPairs is the bisimulation of a product of so many actions and itself.
func chainPairs(actions int) []impl.Pair {
	pairs := []impl.Pair{{Left: zero, Right: zero}, {Left: one, Right: one}}
	e := act(0)
	for range actions {
		pairs = append(pairs, impl.Pair{Left: e, Right: e})
		e = tree(impl.EDot, act(0), e)
	}
	slices.Reverse(pairs)
	return pairs
}

// TestMaxPairs: exactly as many pairs as are allowed, and one more: that of two
// zeros, where there is a second action.
func TestMaxPairs(t *testing.T) {
	rows := []struct {
		name  string
		g     impl.Sig
		e, f  string
		pairs int
		code  int
	}{
		{"400 pairs", sig11, dead(16), dead(25), 400, impl.OK}, {"401 pairs", sig12, dead(16), dead(25), 0, impl.ErrLimit},
		{"399 pairs", sig11, dead(19), dead(21), 399, impl.OK}, {"400 pairs with zeros", sig12, dead(19), dead(21), 400, impl.OK},
		{"406 pairs", sig11, dead(14), dead(29), 0, impl.ErrLimit},
		{"3540 pairs", sig11, dead(60), dead(59), 0, impl.ErrLimit}, {"60 pairs", sig11, dead(60), dead(60), 60, impl.OK},
		{"a difference that is near", sig11, "(" + dead(16) + " + " + balanced(10, "a0", " ") + ")", dead(27), 0, impl.ErrNotFound},
		{"a difference that is far away", sig11, "(" + dead(16) + " + " + balanced(30, "a0", " ") + ")", dead(27), 0, impl.ErrNotFound},
		{"420 pairs, one of them differs", sig01, balanced(20, "a0", " ") + "*", balanced(21, "a0", " ") + "*", 0, impl.ErrNotFound},
	}
	for _, r := range rows {
		e, f := mustExpr(t, r.g, r.e), mustExpr(t, r.g, r.f)
		found, code := impl.FindBisim(r.g, e, f)
		want(t, r.name, list(len(found), code), list(r.pairs, r.code))
		if r.code != impl.OK {
			continue
		}
		yes, code := impl.CheckBisim(r.g, e, f, found)
		no, second := impl.CheckBisim(r.g, e, f, found[:r.pairs-1])
		want(t, "checked "+r.name, list(yes, code, no, second), list(true, impl.OK, false, impl.OK))
		want(t, "lines of "+r.name, strings.Count(impl.BisimText(r.g, found), "\n"), r.pairs)
	}
	e, f := mustExpr(t, sig12, dead(16)), mustExpr(t, sig12, dead(25))
	made := bisimOf(sig12, e, f)
	_, code := impl.CheckBisim(sig12, e, f, made)
	want(t, "401 pairs are too many to be checked", list(len(made), code, equal(t, sig12, e, f)), list(401, impl.ErrRange, true))
}

func TestBisimText(t *testing.T) {
	pairs := pairsOf(t, sig12, "(a0 + 1) = ~t0", "0 = a1**", "(a0 + 1) = ~t0")
	want(t, "text", impl.BisimText(sig12, pairs), "(a0 + 1) = ~t0\n0 = a1**\n(a0 + 1) = ~t0\n")
	want(t, "no pairs", impl.BisimText(sig12, nil), "")
	want(t, "for another signature", list(impl.BisimText(sig11, pairs), impl.BisimText(sig04, pairs), impl.BisimText(sig34, pairs)),
		list("", "", "(a0 + 1) = ~t0\n0 = a1**\n(a0 + 1) = ~t0\n"))
	want(t, "any number of pairs", impl.BisimText(sig00, slices.Repeat(pairsOf(t, sig00, "1 = ~0"), 5_000)), strings.Repeat("1 = ~0\n", 5_000))
	want(t, "the last of them", impl.BisimText(sig00, append(slices.Repeat(pairsOf(t, sig00, "1 = ~0"), 5_000), impl.Pair{Left: one})), "")
	long := derivedChain(15, map[int]int{6: 1, 15: 1})
	e, _ := impl.Derive(sig01, mustExpr(t, sig01, long), 0, 0)
	want(t, "longer than MaxText", impl.BisimText(sig01, []impl.Pair{{Left: e, Right: one}}), textOf(e)+" = 1\n")
	deepest := largePair(800)
	want(t, "the largest", impl.BisimText(sig00, []impl.Pair{deepest}), strings.Repeat("~", 799)+"1 = "+strings.Repeat("~", 799)+"1\n")
}
