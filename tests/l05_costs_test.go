package tests

import (
	"math/rand"
	"slices"
	"strings"
	"testing"

	"loop.example/g01101/impl"
)

// This file tests costs: promises 12 and 13.

const far = impl.Far

// costsText are rows of costs, which are shorter to read; Far is ".".
func costsText(rows [][]int64) string {
	lines := []string{}
	for _, row := range rows {
		lines = append(lines, strings.ReplaceAll(strings.Join(numbersText(row), " "), "-1", "."))
	}
	return strings.Join(lines, ", ")
}

// someCosts are costs of three points: 0 leads to 1 and 2, and 2 nowhere by a0.
func someCosts() impl.Costs {
	return impl.Costs{Sig: sig12, Points: 3, Tests: [][]bool{{true, false, true}}, Acts: [][][]int64{
		{{far, 2, 10}, {far, far, 3}, {far, far, far}}, {{1, far, far}, {0, 7, far}, {1000, far, 0}},
	}}
}

func TestValidCosts(t *testing.T) {
	for name, c := range badCosts() {
		want(t, name, impl.ValidCosts(c), false)
	}
	r := rand.New(rand.NewSource(110))
	for tests := range int64(4) {
		for actions := range int64(5) {
			for _, points := range []int64{1, 2, 7, 8} {
				want(t, "good ones", impl.ValidCosts(randomCosts(r, impl.Sig{Tests: tests, Actions: actions}, points)), true)
			}
			want(t, "9 points", impl.ValidCosts(randomCosts(r, impl.Sig{Tests: tests, Actions: actions}, 9)), false)
		}
	}
	for cost, wanted := range map[int64]bool{-2: false, -1: true, 0: true, 1: true, 999: true, 1000: true, 1001: false} {
		c := impl.Costs{Sig: sig01, Points: 1, Acts: [][][]int64{{{cost}}}}
		costs, first := impl.CostsOf(c, act(0))
		m, second := impl.SupportOf(c)
		yes, third := impl.HoldsInCosts(c, impl.Equation{Left: one, Right: one})
		if wanted {
			want(t, "cost "+digit(cost), list(impl.ValidCosts(c), costs, first, oneLine(m), second, yes, third), list(true, list([]int64{cost}), impl.OK, "model 0 1 1 act "+digit(int64(one01(cost >= 0))), impl.OK, true, impl.OK))
		} else {
			want(t, "cost "+digit(cost), list(impl.ValidCosts(c), costs, first, m, second, yes, third), list(false, [][]int64{}, impl.ErrInvalid, impl.Model{}, impl.ErrInvalid, false, impl.ErrInvalid))
		}
	}
	want(t, "without lists", list(impl.ValidCosts(impl.Costs{Points: 1}), impl.ValidCosts(impl.Costs{Points: 8})), list(true, true))
}

func TestCostsOf(t *testing.T) {
	rows := map[string]string{
		"0": ". . ., . . ., . . .", "1": "0 . ., . 0 ., . . 0", "t0": "0 . ., . . ., . . 0", "~t0": ". . ., . 0 ., . . .", "~(t0 + ~t0)": ". . ., . . ., . . .", "(t0 ~~t0)": "0 . ., . . ., . . 0",
		"a0": ". 2 10, . . 3, . . .", "a1": "1 . ., 0 7 ., 1000 . 0", "(a0 + a1)": "1 2 10, 0 7 3, 1000 . 0", "(a0 + 1)": "0 2 10, . 0 3, . . 0", "(a1 + a1)": "1 . ., 0 7 ., 1000 . 0",
		"(a0 a0)": ". . 5, . . ., . . .", "(a1 a1)": "2 . ., 1 14 ., 1000 . 0", "(a0 a1)": "2 9 10, 1003 . 3, . . .", "(a1 a0)": ". 3 11, . 2 10, . 1002 1010", "(t0 a0)": ". 2 10, . . ., . . .",
		"(a0 t0)": ". . 10, . . 3, . . .", "(a0 0)": ". . ., . . ., . . .", "(a0 (a0 a0))": ". . ., . . ., . . .", "((a0 ~t0) a1)": "2 9 ., . . ., . . .",
		// A way of two steps is cheaper than one, and to stay costs nothing.
		"a0*": "0 2 5, . 0 3, . . 0", "a1*": "0 . ., 0 0 ., 1000 . 0", "(a0 + a1)*": "0 2 5, 0 0 3, 1000 1002 0", "(a0 a0)*": "0 . 5, . 0 ., . . 0", "0*": "0 . ., . 0 ., . . 0", "(t0 a0)*": "0 2 10, . 0 ., . . 0",
		"(a1 (a0 + a1)*)": "1 3 6, 0 2 5, 1000 1002 0", "(a0 a1)*": "0 9 10, 1003 0 3, . . 0", "((a0 + 0) a0*)": ". 2 5, . . 3, . . .", "(a1 a1*)": "1 . ., 0 7 ., 1000 . 0",
	}
	for text, wanted := range rows {
		costs, code := impl.CostsOf(someCosts(), mustExpr(t, sig12, text))
		want(t, "costs of "+text, list(costsText(costs), code), list(wanted, impl.OK))
	}
	free := impl.Costs{Sig: sig01, Points: 3, Acts: [][][]int64{{{far, 0, far}, {far, far, 0}, {far, far, far}}}}
	costs, code := impl.CostsOf(free, mustExpr(t, sig01, "a0*"))
	want(t, "without costs", list(costsText(costs), code), list("0 0 0, . 0 0, . . 0", impl.OK))
	costs, code = impl.CostsOf(impl.Costs{Points: 1}, mustExpr(t, sig00, "~0"))
	want(t, "without tests and actions", list(costsText(costs), code), list("0", impl.OK))
}

// lineCosts are those of 8 points where a0 leads to the next one, a1 stays, a2
// leads from the last one to the first one, and a3 leads round, each for as
// much as may be.
func lineCosts() impl.Costs {
	at := func(leads func(x, y int64) bool) [][]int64 {
		return tableBy(8, func(x, y int64) int64 {
			if leads(x, y) {
				return impl.MaxCost
			}
			return far
		})
	}
	return impl.Costs{Sig: sig04, Points: 8, Acts: [][][]int64{
		at(func(x, y int64) bool { return y == x+1 }), at(func(x, y int64) bool { return x == y }),
		at(func(x, y int64) bool { return x == 7 && y == 0 }), at(func(x, y int64) bool { return y == (x+1)%8 }),
	}}
}

// TestGreatCosts: no cost of a valid expression is more than MaxTotal. Its
// cheapest run does none of its at most 100 actions twice from one of 8 points,
// because it could leave out what lies between; so it costs at most 800,000.
// On the way, where a ring is gone round, there are sums that are greater.
func TestGreatCosts(t *testing.T) {
	c := lineCosts()
	g := c.Sig
	stay := func(times int) string { return balanced(times, "a1", " ") }
	rows := []struct {
		text string
		y    int64
		cost int64
	}{
		{stay(100), 0, 100_000}, {"a0*", 7, 7_000}, {"(a0* (a2 a0*))", 7, 15_000}, {"(a0 a1)*", 7, 14_000}, {"(a0 " + stay(98) + ")*", 7, 693_000}, {"(a0 " + stay(98) + ")*", 1, 99_000}, {"(a0 " + stay(98) + ")*", 0, 0},
		{"(a1 (a0 " + stay(97) + ")*)", 7, 687_000}, {"((a0 " + stay(90) + ")* (a2 a0*))", 7, 637_000 + 8_000}, {"((a0 " + stay(45) + ")* (a2 (a0 " + stay(47) + ")*))", 7, 46*7_000 + 1_000 + 48*7_000}, {"(a0 (a1* " + stay(96) + "))*", 7, 97 * 7_000},
		{"(a3 " + stay(98) + ")*", 7, 693_000}, {"(a3 " + stay(98) + ")*", 6, 594_000}, {"((a3 " + stay(48) + ")* (a3 " + stay(48) + ")*)", 7, 7 * 49_000},
		{"(" + balanced(39, "(a0* a2)", " ") + " a0*)", 7, 39*8_000 + 7_000},
	}
	for _, row := range rows {
		e := mustExpr(t, g, row.text)
		costs, code := impl.CostsOf(c, e)
		want(t, "costs of "+row.text, list(costs[0][row.y], code), list(row.cost, impl.OK))
		want(t, "all costs of "+row.text, costsText(costs), costsText(costsBy(c, e)))
	}
}

// TestCostsByTable: costs are what the table says, and those of the cheapest
// words; they are not Far just where the support has a pair.
func TestCostsByTable(t *testing.T) {
	r := rand.New(rand.NewSource(111))
	exact, differ, same := 0, 0, 0
	for i := range 1200 {
		g := []impl.Sig{sig12, sig11, sig01, {Tests: 2, Actions: 1}, sig22, sig34, sig00}[i%7]
		c, e, f := randomCosts(r, g, int64(1+i%8)), randomExpr(r, g, 1+i%4), randomExpr(r, g, 1+i%3)
		if i%3 == 0 {
			f = equalTo(r, g, e)
		}
		costs, code := impl.CostsOf(c, e)
		want(t, "costs of "+textOf(e), list(costsText(costs), code), list(costsText(costsBy(c, e)), impl.OK))
		support, first := impl.SupportOf(c)
		pairs := relation(t, support, e)
		want(t, "possible", list(marksOf(pairs), first), list(marksOf(tableBy(c.Points, func(x, y int64) bool { return costs[x][y] != far })), impl.OK))
		yes, second := impl.HoldsInCosts(c, impl.Equation{Left: e, Right: f})
		equals := costsText(costs) == costsText(costsBy(c, f))
		want(t, textOf(e)+" = "+textOf(f), list(yes, second), list(equals, impl.OK))
		same, differ = same+one01(equals), differ+one01(!equals)
		if g.Actions > 2 || g.Tests > 1 {
			continue
		}
		words := [][]int64{}
		for x := range c.Points {
			row := slices.Repeat([]int64{far}, int(c.Points))
			for n := range 4 {
				for _, w := range wordsOfLength(g, n) {
					if !holds(e, w) {
						continue
					}
					for y, cost := range costOfWord(c, w, x) {
						row[y] = leastCost(row[y], cost)
					}
				}
			}
			words = append(words, row)
		}
		lengths, _ := impl.LengthsOf(g, e)
		if len(lengths) == 0 || lengths[len(lengths)-1] < 4 {
			exact++
			want(t, "the cheapest words of "+textOf(e), costsText(words), costsText(costs))
		}
		for x, row := range words {
			for y, cost := range row {
				if leastCost(costs[x][y], cost) != costs[x][y] {
					t.Errorf("%s from %d to %d: %d, but a word costs %d", textOf(e), x, y, costs[x][y], cost)
				}
			}
		}
	}
	if exact < 300 || differ < 400 || same < 300 {
		t.Errorf("%d without long words, %d differ, %d are the same", exact, differ, same)
	}
}

func TestHoldsInCosts(t *testing.T) {
	for text, wanted := range map[string]bool{
		"a0 = a0": true, "a0 = a1": false, "(a0 + a1) = a1": false, "(a0 + (a0 a0)) = a0": false, "(a0 (a0 a0)) = 0": true, "a0* = ((1 + a0) + (a0 a0))": true, "a0* = (1 + a0)": false, "1 = (1 + a1)": false,
		"(~t0 a0) = ((a0* ~t0) a0)": false, "(a1 t0) = (t0 + (a1 t0))": false, "(t0 a1) = ((t0 a1) + (~t0 (a0 (a1 (~t0 a1)))))": true, "(~t0 a0) = (~t0 (a0 t0))": true, "(a0 + a1)* = (a1* (a0 a1*)*)": true,
	} {
		yes, code := impl.HoldsInCosts(someCosts(), mustEquation(t, sig12, text))
		want(t, text, list(yes, code), list(wanted, impl.OK))
		q := mustEquation(t, sig12, text)
		yes, code = impl.HoldsInCosts(someCosts(), impl.Equation{Left: q.Right, Right: q.Left})
		want(t, text+", the other way", list(yes, code), list(wanted, impl.OK))
	}
	// Costs separate what their support does not.
	loop := impl.Costs{Sig: sig01, Points: 1, Acts: [][][]int64{{{3}}}}
	m, _ := impl.SupportOf(loop)
	q := mustEquation(t, sig01, "a0 = (a0 a0)")
	yes, first := impl.HoldsIn(m, q)
	same, second := impl.HoldsInCosts(loop, q)
	want(t, "one and two steps", list(yes, first, same, second), list(true, impl.OK, false, impl.OK))
	loop.Acts[0][0][0] = 0
	same, second = impl.HoldsInCosts(loop, q)
	want(t, "steps without costs", list(same, second), list(true, impl.OK))
}

func TestSupportOf(t *testing.T) {
	m, code := impl.SupportOf(someCosts())
	want(t, "support", list(oneLine(m), code), list("model 1 2 3 test 101 act 011 001 000 act 100 110 101", impl.OK))
	m, code = impl.SupportOf(impl.Costs{Sig: sig11, Points: 2, Tests: [][]bool{{false, true}}, Acts: [][][]int64{{{0, far}, {far, 1000}}}})
	want(t, "support", list(oneLine(m), code), list("model 1 1 2 test 01 act 10 01", impl.OK))
	m, code = impl.SupportOf(impl.Costs{Points: 8})
	want(t, "without lists", list(oneLine(m), code), list("model 0 0 8", impl.OK))
	r := rand.New(rand.NewSource(112))
	for i := range 200 {
		c := randomCosts(r, impl.Sig{Tests: int64(i % 4), Actions: int64(i % 5)}, int64(1+i%8))
		m := impl.Model{Sig: c.Sig, Points: c.Points, Tests: c.Tests}
		for _, rows := range c.Acts {
			m.Acts = append(m.Acts, tableBy(c.Points, func(x, y int64) bool { return rows[x][y] >= 0 }))
		}
		got, code := impl.SupportOf(c)
		want(t, "support", list(modelByTable(got), code), list(modelByTable(m), impl.OK))
	}
}

func TestCostErrors(t *testing.T) {
	check := func(name string, c impl.Costs, e impl.Expr) {
		t.Helper()
		costs, first := impl.CostsOf(c, e)
		left, second := impl.HoldsInCosts(c, impl.Equation{Left: e, Right: one})
		right, third := impl.HoldsInCosts(c, impl.Equation{Left: one, Right: e})
		want(t, name, list(costs, first, left, second, right, third), list([][]int64{}, impl.ErrInvalid, false, impl.ErrInvalid, false, impl.ErrInvalid))
	}
	for name, c := range badCosts() {
		check(name, c, one)
		m, code := impl.SupportOf(c)
		want(t, name, list(m, code), list(impl.Model{}, impl.ErrInvalid))
	}
	good := randomCosts(rand.New(rand.NewSource(113)), sig22, 2)
	for name, e := range badExprs() {
		check(name, good, e)
	}
	check("an action of another signature", impl.Costs{Points: 1}, act(0))
	check("a test of another signature", lineCosts(), test(0))
}
