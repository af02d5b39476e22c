package tests

import (
	"math"
	"math/rand"
	"slices"
	"strconv"
	"strings"
	"testing"

	"loop.example/g01101/impl"
)

// This file tests the second half of chapter 2, what is made of automata:
// promise 5.

// leastOf is the least automaton by its definition: states are compared by the
// words that are accepted from them, two by two.
func leastOf(a impl.Automaton) impl.Automaton {
	least, list := impl.Automaton{Sig: a.Sig}, []int64{0}
	for n := 0; n < len(list); n++ {
		rows := [][]int64{}
		for _, row := range a.Next[list[n]] {
			numbers := []int64{}
			for _, next := range row {
				number := slices.IndexFunc(list, func(s int64) bool { return acceptSame(a, a, s, next) })
				if acceptSame(a, a, -1, next) {
					number = -1
				} else if number < 0 {
					number, list = len(list), append(list, next)
				}
				numbers = append(numbers, int64(number))
			}
			rows = append(rows, numbers)
		}
		least.Accept, least.Next = append(least.Accept, a.Accept[list[n]]), append(least.Next, rows)
	}
	return least
}

// mixedOf is the automaton of pairs by its definition, however many there are.
func mixedOf(a, b impl.Automaton, mix int64) impl.Automaton {
	mixed, list := impl.Automaton{Sig: a.Sig}, [][2]int64{{0, 0}}
	for n := 0; n < len(list); n++ {
		i, k := list[n][0], list[n][1]
		accepts, rows := []bool{}, [][]int64{}
		for atom := range int64(1) << a.Sig.Tests {
			x, y := i >= 0 && a.Accept[i][atom], k >= 0 && b.Accept[k][atom]
			accepts = append(accepts, mix == impl.MixUnion && (x || y) || mix == impl.MixMeet && x && y || mix == impl.MixMinus && x && !y)
			row := []int64{}
			for act := range a.Sig.Actions {
				pair := [2]int64{-1, -1}
				if i >= 0 {
					pair[0] = a.Next[i][atom][act]
				}
				if k >= 0 {
					pair[1] = b.Next[k][atom][act]
				}
				number := slices.Index(list, pair)
				if pair == [2]int64{-1, -1} {
					number = -1
				} else if number < 0 {
					number, list = len(list), append(list, pair)
				}
				row = append(row, int64(number))
			}
			rows = append(rows, row)
		}
		mixed.Accept, mixed.Next = append(mixed.Accept, accepts), append(mixed.Next, rows)
	}
	return mixed
}

func TestLeastAutomaton(t *testing.T) {
	rows := map[string][2]string{
		"already least":             {"automaton 1 1\nstate +:. +:0\n", "automaton 1 1\nstate +:. +:0\n"},
		"equal states":              {"automaton 0 1\nstate +:1\nstate +:2\nstate +:0\n", "automaton 0 1\nstate +:0\n"},
		"back to the first state":   {"automaton 0 1\nstate +:1\nstate -:0\n", "automaton 0 1\nstate +:1\nstate -:0\n"},
		"back to one like it":       {"automaton 0 1\nstate +:1\nstate -:2\nstate +:1\n", "automaton 0 1\nstate +:1\nstate -:0\n"},
		"dead states":               {"automaton 0 2\nstate +:1:2\nstate -:1:2\nstate -:.:1\n", "automaton 0 2\nstate +:.:.\n"},
		"a dead first state":        {"automaton 0 2\nstate -:1:.\nstate -:0:0\n", "automaton 0 2\nstate -:.:.\n"},
		"a dead first state alone":  {"automaton 0 1\nstate -:0\n", "automaton 0 1\nstate -:.\n"},
		"nothing at all":            {"automaton 1 1\nstate -:. -:.\n", "automaton 1 1\nstate -:. -:.\n"},
		"dead before others":        {"automaton 0 2\nstate -:1:2\nstate -:1:.\nstate +:.:.\n", "automaton 0 2\nstate -:.:1\nstate +:.:.\n"},
		"states that are not found": {"automaton 0 1\nstate +:2\nstate -:2\nstate -:0\n", "automaton 0 1\nstate +:1\nstate -:0\n"},
		"accepting, but not found":  {"automaton 0 1\nstate -:0\nstate +:0\n", "automaton 0 1\nstate -:.\n"},
		"without actions":           {"automaton 1 0\nstate - +\nstate + -\nstate - -\n", "automaton 1 0\nstate - +\n"},
		"other atoms":               {"automaton 1 1\nstate -:1 -:2\nstate +:. -:.\nstate -:. +:.\n", "automaton 1 1\nstate -:1 -:2\nstate +:. -:.\nstate -:. +:.\n"},
		"other steps":               {"automaton 1 1\nstate -:1 -:2\nstate +:3 -:.\nstate +:. -:3\nstate +:. +:.\n", "automaton 1 1\nstate -:1 -:2\nstate +:3 -:.\nstate +:. -:3\nstate +:. +:.\n"},
		"atoms, then actions": {"automaton 1 2\nstate -:4:3 -:2:1\nstate +:0:. -:.:.\nstate +:.:0 -:.:.\nstate +:.:. -:0:.\nstate +:.:. -:.:0\n",
			"automaton 1 2\nstate -:1:2 -:3:4\nstate +:.:. -:.:0\nstate +:.:. -:0:.\nstate +:.:0 -:.:.\nstate +:0:. -:.:.\n"},
		"first all next states of one": {"automaton 0 2\nstate -:1:3\nstate -:2:.\nstate +:.:.\nstate -:.:2\n",
			"automaton 0 2\nstate -:1:2\nstate -:3:.\nstate -:.:3\nstate +:.:.\n"},
	}
	for name, row := range rows {
		a, code := impl.LeastAutomaton(mustAutomaton(t, row[0]))
		want(t, name, list(impl.AutomatonText(a), code), list(row[1], impl.OK))
	}
	a, code := impl.LeastAutomaton(automatonOf(t, sig12, "((t0 (a0 a1)) + (~t0 (a0 (a1 1*))))"))
	want(t, "of an expression", list(impl.AutomatonText(a), code),
		list("automaton 1 2\nstate -:1:. -:1:.\nstate -:.:2 -:.:2\nstate +:.:. +:.:.\n", impl.OK))
	for _, long := range []impl.Automaton{chain(60, -1), chain(60, 0), chain(60, 59)} {
		a, code = impl.LeastAutomaton(long)
		want(t, "60 different states", list(impl.AutomatonText(a), code), list(impl.AutomatonText(long), impl.OK))
		for s := range long.Accept {
			long.Accept[s][0] = s%20 == 19
		}
		a, code = impl.LeastAutomaton(long)
		want(t, "some accept", list(impl.AutomatonText(a), code), list(impl.AutomatonText(leastOf(long)), impl.OK))
	}
	for name, bad := range badAutomata() {
		a, code = impl.LeastAutomaton(bad)
		want(t, name, list(a, code), list(impl.Automaton{}, impl.ErrInvalid))
	}
}

// TestLeastByDefinition: random automata, also with states that come several
// times or in another order.
func TestLeastByDefinition(t *testing.T) {
	r := rand.New(rand.NewSource(30))
	dead, fewer := 0, 0
	for i := range 500 {
		g := []impl.Sig{sig11, sig12, {Tests: 2, Actions: 2}, {Tests: 0, Actions: 2}, sig01, {Tests: 2}}[i%6]
		a := randomAutomaton(r, g, 1+i%7)
		least, code := impl.LeastAutomaton(a)
		want(t, "least of "+impl.AutomatonText(a), list(impl.AutomatonText(least), code), list(impl.AutomatonText(leastOf(a)), impl.OK))
		want(t, "the same words", list(acceptSame(a, least, 0, 0), impl.ValidAutomaton(least)), list(true, true))
		again, _ := impl.LeastAutomaton(least)
		want(t, "least again", impl.AutomatonText(again), impl.AutomatonText(least))
		other, _ := impl.LeastAutomaton(shuffled(r, a))
		want(t, "shuffled", impl.AutomatonText(other), impl.AutomatonText(least))
		if acceptSame(a, a, 0, -1) {
			dead++
		}
		if len(least.Accept) < len(a.Accept) {
			fewer++
		}
	}
	if dead < 10 || fewer < 50 {
		t.Errorf("%d dead automata and %d that have fewer states are too few", dead, fewer)
	}
}

// shuffled returns an automaton with each state twice, in another order: each
// step leads to one of both.
func shuffled(r *rand.Rand, a impl.Automaton) impl.Automaton {
	n := len(a.Accept)
	b, places := impl.Automaton{Sig: a.Sig}, make([]int64, 2*n)
	order := append([]int{0}, r.Perm(2*n-1)...)
	for i := 1; i < 2*n; i++ {
		order[i]++
	}
	for place, old := range order {
		places[old] = int64(place)
	}
	for _, old := range order {
		rows := [][]int64{}
		for _, row := range a.Next[old%n] {
			numbers := []int64{}
			for _, next := range row {
				if next >= 0 {
					next = places[next+int64(n*r.Intn(2))]
				}
				numbers = append(numbers, next)
			}
			rows = append(rows, numbers)
		}
		b.Accept, b.Next = append(b.Accept, a.Accept[old%n]), append(b.Next, rows)
	}
	return b
}

// TestLeastJustForTheSame: least automata are equal just for the same words.
func TestLeastJustForTheSame(t *testing.T) {
	r := rand.New(rand.NewSource(31))
	same := 0
	for i := range 3000 {
		g := []impl.Sig{sig01, sig11}[i%2]
		a, b := randomAutomaton(r, g, 1+r.Intn(3)), randomAutomaton(r, g, 1+r.Intn(3))
		x, _ := impl.LeastAutomaton(a)
		y, _ := impl.LeastAutomaton(b)
		if acceptSame(a, b, 0, 0) {
			same++
		}
		if impl.SameAutomaton(x, y) != acceptSame(a, b, 0, 0) {
			t.Fatalf("least automata of %s and %s", impl.AutomatonText(a), impl.AutomatonText(b))
		}
	}
	if same < 100 {
		t.Errorf("only %d pairs accept the same words", same)
	}
	for _, pair := range equalTexts {
		x, _ := impl.LeastAutomaton(automatonOf(t, sig12, pair[0]))
		y, _ := impl.LeastAutomaton(automatonOf(t, sig12, pair[1]))
		want(t, pair[0]+" = "+pair[1], impl.AutomatonText(x), impl.AutomatonText(y))
	}
}

func TestMixAutomata(t *testing.T) {
	a, b := mustAutomaton(t, "automaton 0 2\nstate +:1:.\nstate -:.:0\n"), mustAutomaton(t, "automaton 0 2\nstate +:0:1\nstate -:0:.\n")
	rows := []struct {
		name string
		a, b impl.Automaton
		mix  int64
		text string
	}{
		{"union", a, b, impl.MixUnion, "automaton 0 2\nstate +:1:2\nstate +:3:4\nstate -:3:.\nstate +:3:2\nstate +:1:.\n"},
		{"meet", a, b, impl.MixMeet, "automaton 0 2\nstate +:1:2\nstate -:3:4\nstate -:3:.\nstate -:3:2\nstate -:1:.\n"},
		{"minus", a, b, impl.MixMinus, "automaton 0 2\nstate -:1:2\nstate -:3:4\nstate -:3:.\nstate -:3:2\nstate +:1:.\n"},
		{"minus, the other way", b, a, impl.MixMinus, "automaton 0 2\nstate -:1:2\nstate +:3:4\nstate -:3:.\nstate +:3:2\nstate -:1:.\n"},
	}
	for _, r := range rows {
		got, code := impl.MixAutomata(r.a, r.b, r.mix)
		want(t, r.name, list(impl.AutomatonText(got), code), list(impl.AutomatonText(mixedOf(r.a, r.b, r.mix)), impl.OK))
		want(t, r.name, impl.AutomatonText(got), r.text)
	}
	nothing := mustAutomaton(t, "automaton 0 1\nstate -:.\n")
	loop := mustAutomaton(t, "automaton 0 1\nstate -:1\nstate -:1\n")
	got, code := impl.MixAutomata(loop, nothing, impl.MixMeet)
	want(t, "dead pairs stay", list(impl.AutomatonText(got), code), list("automaton 0 1\nstate -:1\nstate -:1\n", impl.OK))
	got, code = impl.MixAutomata(nothing, loop, impl.MixMinus)
	want(t, "dead pairs stay", list(len(got.Accept), got.Next[1][0][0], code), list(2, 1, impl.OK))
	c, d := mustAutomaton(t, "automaton 2 0\nstate + + - -\n"), mustAutomaton(t, "automaton 2 0\nstate + - + -\n")
	for mix, text := range map[int64]string{impl.MixUnion: "+ + + -", impl.MixMeet: "+ - - -", impl.MixMinus: "- + - -"} {
		got, code := impl.MixAutomata(c, d, mix)
		want(t, "no actions", list(impl.AutomatonText(got), code), list("automaton 2 0\nstate "+text+"\n", impl.OK))
	}
	order := mustAutomaton(t, "automaton 1 2\nstate -:3:2 -:1:4\nstate +:.:. -:.:.\nstate +:0:. -:.:.\nstate +:.:0 -:.:.\nstate +:.:. -:0:.\n")
	got, code = impl.MixAutomata(order, order, impl.MixMeet)
	want(t, "atoms, then actions", list(impl.AutomatonText(got), code),
		list("automaton 1 2\nstate -:1:2 -:3:4\nstate +:.:0 -:.:.\nstate +:0:. -:.:.\nstate +:.:. -:.:.\nstate +:.:. -:0:.\n", impl.OK))
}

func TestMixAutomataErrors(t *testing.T) {
	a, loop := automatonOf(t, sig12, "(a0 + a1)*"), mustAutomaton(t, "automaton 0 1\nstate +:0\n")
	rows := []struct {
		name   string
		a, b   impl.Automaton
		mix    int64
		states int
		code   int
	}{
		{"mix 0", a, a, 0, 0, impl.ErrRange}, {"mix 4", a, a, 4, 0, impl.ErrRange}, {"mix -1", a, a, -1, 0, impl.ErrRange},
		{"a great mix", a, a, math.MaxInt64, 0, impl.ErrRange}, {"a least mix", a, a, math.MinInt64, 0, impl.ErrRange},
		{"other tests", a, automatonOf(t, impl.Sig{Tests: 2, Actions: 2}, "a0"), 1, 0, impl.ErrRange},
		{"other actions", a, automatonOf(t, sig11, "a0"), 2, 0, impl.ErrRange},
		{"other signature and mix", loop, a, 9, 0, impl.ErrRange},
		{"60 pairs, one of them with -1", chain(59, -1), loop, 1, 60, impl.OK},
		{"60 pairs, one of them with -1 in front", loop, chain(59, -1), 3, 60, impl.OK},
		{"61 pairs, one of them with -1", chain(60, -1), loop, 2, 0, impl.ErrLimit},
		{"61 pairs, one of them with -1 in front", loop, chain(60, -1), 1, 0, impl.ErrLimit},
		{"60 pairs of cycles", chain(4, 0), chain(15, 0), 2, 60, impl.OK}, {"62 pairs of cycles", chain(2, 0), chain(31, 0), 1, 0, impl.ErrLimit},
		{"63 pairs of cycles", chain(7, 0), chain(9, 0), 3, 0, impl.ErrLimit}, {"3540 pairs of cycles", chain(60, 0), chain(59, 0), 3, 0, impl.ErrLimit},
		{"60 pairs of the same", chain(60, -1), chain(60, -1), 3, 60, impl.OK},
		{"limit, but range before", chain(60, 0), chain(59, 0), 0, 0, impl.ErrRange},
	}
	for _, r := range rows {
		got, code := impl.MixAutomata(r.a, r.b, r.mix)
		want(t, r.name, list(len(got.Accept), len(got.Next), code), list(r.states, r.states, r.code))
		if r.code != impl.OK {
			want(t, r.name, got, impl.Automaton{})
		}
	}
	for name, bad := range badAutomata() {
		for _, mix := range []int64{1, 2, 3, 4} {
			first, one := impl.MixAutomata(bad, a, mix)
			second, two := impl.MixAutomata(a, bad, mix)
			want(t, name, list(first, one, second, two), list(impl.Automaton{}, impl.ErrInvalid, impl.Automaton{}, impl.ErrInvalid))
		}
	}
}

// TestMixByDefinition: random automata, their pairs, and how many words of
// both and of one alone there are.
func TestMixByDefinition(t *testing.T) {
	r := rand.New(rand.NewSource(32))
	for i := range 300 {
		g := []impl.Sig{sig11, sig12, {Tests: 2, Actions: 2}, {Tests: 0, Actions: 3}, {Tests: 2}}[i%5]
		a, b := randomAutomaton(r, g, 1+r.Intn(5)), randomAutomaton(r, g, 1+r.Intn(5))
		counts := map[int64][]int64{}
		for mix := int64(1); mix <= 3; mix++ {
			got, code := impl.MixAutomata(a, b, mix)
			want(t, "mixed", list(impl.AutomatonText(got), code), list(impl.AutomatonText(mixedOf(a, b, mix)), impl.OK))
			for length := range int64(5) {
				n, _ := impl.AcceptedCount(got, length)
				counts[mix] = append(counts[mix], n)
			}
			if g.Actions == 0 {
				continue
			}
			for range 10 {
				w := randomWord(r, g, r.Intn(4))
				x, y := accepted(a, 0, w), accepted(b, 0, w)
				want(t, "accepted", accepted(got, 0, w), mix == 1 && (x || y) || mix == 2 && x && y || mix == 3 && x && !y)
			}
		}
		for length := range int64(5) {
			x, _ := impl.AcceptedCount(a, length)
			y, _ := impl.AcceptedCount(b, length)
			either, both, minus := counts[1][length], counts[2][length], counts[3][length]
			want(t, "counts", list(either+both, minus+both), list(x+y, x))
		}
	}
}

func TestExprOf(t *testing.T) {
	rows := map[string]string{
		"automaton 0 0\nstate -\n": "0", "automaton 0 0\nstate +\n": "1", "automaton 0 1\nstate +:0\n": "a0*",
		"automaton 0 1\nstate +:.\n": "1", "automaton 0 1\nstate -:0\n": "0", "automaton 1 0\nstate - +\n": "t0", "automaton 1 0\nstate + -\n": "~t0",
		"automaton 1 0\nstate + +\n": "(t0 + ~t0)", "automaton 2 0\nstate - - + -\n": "(~t0 t1)",
		"automaton 3 0\nstate - - - - - + - -\n":                       "(t0 (~t1 t2))",
		"automaton 3 0\nstate + - - - - - - +\n":                       "((t0 (t1 t2)) + (~t0 (~t1 ~t2)))",
		"automaton 1 1\nstate +:. +:0\n":                               "((t0 a0)* (t0 + ~t0))",
		"automaton 1 1\nstate -:1 -:1\nstate +:. +:.\n":                "(((t0 a0) + (~t0 a0)) (t0 + ~t0))",
		"automaton 0 2\nstate -:1:.\nstate +:.:0\n":                    "((a0 a1)* a0)",
		"automaton 0 2\nstate +:1:.\nstate -:1:0\n":                    "(a0 (a0* a1))*",
		"automaton 0 2\nstate -:1:0\nstate +:.:1\n":                    "(a1* (a0 a1*))",
		"automaton 0 2\nstate -:0:1\nstate +:2:.\nstate -:1:.\n":       "(a0* (a1 (a0 a0)*))",
		"automaton 0 2\nstate +:2:1\nstate +:.:.\nstate +:1:0\n":       "((a0 a1)* ((((a0 a0) + 1) + a0) + a1))",
		"automaton 0 3\nstate -:1:2:.\nstate +:.:.:0\nstate +:.:0:.\n": "",
	}
	for text, wanted := range rows {
		a := mustAutomaton(t, text)
		e, code := impl.ExprOf(a)
		expected, second := exprOf(a)
		want(t, "expression of "+text, list(textOf(e), code), list(textOf(expected), second))
		if wanted != "" && textOf(e) != wanted {
			t.Errorf("expression of %q: %s, not %s", text, textOf(e), wanted)
		}
	}
	for name, bad := range badAutomata() {
		e, code := impl.ExprOf(bad)
		want(t, name, list(e, code), list(impl.Expr{}, impl.ErrInvalid))
	}
}

// TestExprOfLimits: in each automaton just one kind of expression comes to the
// limit, and the result, if there is one, is small.
func TestExprOfLimits(t *testing.T) {
	rows := []struct {
		name, text string
		kind, size int64
	}{
		{"a step", "automaton 2 4\nstate -:.:.:.:. -:.:.:.:. +:.:.:.:. -:.:.:.:.\nstate -:1:.:0:1 +:2:3:1:3 -:3:1:3:2 -:3:3:.:.\n" +
			"state -:0:1:0:. -:2:2:2:1 -:.:1:.:3 -:2:0:0:.\nstate -:.:2:0:0 -:3:3:2:3 -:.:.:2:3 +:1:2:.:3\n", 0, 800},
		{"a step", "automaton 2 4\nstate -:.:.:.:. -:.:.:.:. +:.:.:.:. +:.:.:.:.\nstate +:2:.:1:0 +:0:.:3:1 -:2:3:.:. -:3:.:1:2\n" +
			"state -:3:2:0:0 +:1:1:1:2 -:2:2:0:1 +:1:.:.:3\nstate +:3:3:0:3 -:3:3:0:3 -:.:2:2:. -:.:1:.:.\n", 0, 801},
		{"what is accepted", "automaton 3 2\nstate -:.:. +:.:. -:.:. -:.:. -:.:. -:.:. -:.:. +:.:.\nstate +:2:0 -:1:0 +:.:2 +:0:3 +:1:1 -:0:1 +:1:2 +:.:3\n" +
			"state -:.:2 +:0:. +:2:0 +:3:3 -:0:0 -:3:2 +:.:1 +:.:1\nstate +:.:. +:.:. -:.:3 +:.:2 +:0:2 +:.:3 +:.:2 +:0:3\n", 1, 800},
		{"what is accepted", "automaton 3 2\nstate +:.:. +:.:. -:.:. +:.:. -:.:. -:.:. -:.:. +:.:.\nstate -:2:2 -:0:. -:.:. +:.:1 +:2:. +:.:1 +:0:1 +:1:3\n" +
			"state +:0:. -:1:1 +:3:1 -:0:2 +:.:3 +:.:. +:.:2 +:0:.\nstate -:0:. +:.:2 +:.:1 -:3:0 +:.:. +:0:3 +:1:3 -:1:1\n", 1, 801},
		{"the result", "automaton 3 1\nstate -:3 -:. -:0 -:2 -:3 -:. -:2 -:1\nstate -:2 -:0 -:0 -:3 -:3 -:2 -:1 -:.\n" +
			"state -:1 -:3 -:1 -:2 -:1 -:3 -:. -:.\nstate -:. -:2 -:. -:2 -:1 -:. -:0 -:0\n", 2, 800},
		{"the result", "automaton 3 4\nstate -:.:.:.:. -:.:0:0:. -:.:2:.:2 -:1:.:0:1 -:.:2:0:. -:.:.:2:1 -:.:2:.:0 -:.:.:.:.\n" +
			"state -:2:1:1:2 -:.:2:2:. -:.:1:0:0 -:2:1:.:0 -:.:1:.:. -:2:.:1:. -:0:2:1:. -:.:.:2:.\n" +
			"state -:.:1:.:0 -:.:0:.:2 -:.:.:0:2 -:2:1:.:. -:.:.:1:1 -:0:.:1:0 -:.:1:.:. -:0:.:0:.\n", 2, 801},
		{"a step round 0*, which is not tidy", "automaton 3 3\nstate -:.:.:. +:.:.:. -:.:.:. -:.:.:. -:.:.:. -:.:.:. +:.:.:. +:.:.:.\nstate -:3:1:1 -:.:1:3 -:3:.:. -:3:1:1 -:1:1:3 -:3:1:3 -:1:3:3 -:1:1:3\n" +
			"state -:1:1:1 -:1:1:1 -:1:.:3 -:1:1:. -:1:1:3 -:1:1:1 -:1:1:3 -:.:1:1\nstate -:1:1:1 -:.:1:1 -:1:1:1 -:1:1:1 -:1:.:1 -:1:1:1 -:1:.:1 -:1:1:1\n", 0, 801},
		{"a product with zero", "automaton 3 3\nstate +:.:.:. +:.:.:. +:.:.:. -:.:.:. -:.:.:. -:.:.:. -:.:.:. -:.:.:.\nstate -:1:3:3 -:2:0:1 -:3:1:2 -:3:1:. -:3:.:1 -:.:0:3 -:3:2:2 -:2:.:1\n" +
			"state -:2:2:1 -:3:1:1 -:3:2:3 -:3:3:3 -:1:.:3 -:.:1:2 -:2:.:. -:1:3:.\nstate -:2:3:2 -:2:3:2 -:2:2:. -:2:2:2 -:3:2:2 -:3:3:3 -:3:2:. -:2:2:2\n", 1, 806},
	}
	for _, r := range rows {
		a := mustAutomaton(t, r.text)
		whole, sizes := exprByTable(a)
		want(t, r.name+" has the size", list(sizes[r.kind], impl.ValidExpr(a.Sig, tidied(whole))), list(r.size, true))
		e, code := impl.ExprOf(a)
		if r.size > impl.MaxDerived {
			sizes[r.kind] = 0
			want(t, r.name+" is too large", list(e, code, slices.Max(sizes[:]) <= impl.MaxDerived), list(impl.Expr{}, impl.ErrLimit, true))
		} else {
			want(t, r.name, list(textOf(e), code), list(textOf(tidied(whole)), impl.OK))
		}
	}
	for states, wanted := range map[int]int{40: impl.OK, 41: impl.OK, 42: impl.ErrLimit, 60: impl.ErrLimit} {
		e, code := impl.ExprOf(chain(states, -1))
		text := "0"
		if wanted == impl.OK {
			text = rightChain(repeat("a0", states-1), " ")
		}
		if wanted != impl.OK {
			want(t, "too deep", list(e, code), list(impl.Expr{}, impl.ErrLimit))
		} else {
			want(t, "depth of "+strconv.Itoa(states-1), list(textOf(e), code), list(text, impl.OK))
		}
	}
}

// TestExprOfNodes: results of exactly MaxNodes nodes, and of one more.
func TestExprOfNodes(t *testing.T) {
	r := rand.New(rand.NewSource(33))
	seen := map[int64]int{}
	for range 500 {
		a := randomAutomaton(r, sig34, 1)
		for _, row := range a.Next[0] {
			for act := range row {
				row[act] = -(r.Int63n(8) / 5)
			}
		}
		whole, _ := exprByTable(a)
		size := impl.ExprSize(tidied(whole))
		if size < 195 || size > 206 {
			continue
		}
		seen[size]++
		e, code := impl.ExprOf(a)
		if size > impl.MaxNodes {
			want(t, "too many nodes", list(e, code), list(impl.Expr{}, impl.ErrLimit))
		} else {
			want(t, "nodes", list(textOf(e), code), list(textOf(tidied(whole)), impl.OK))
		}
	}
	if seen[200] == 0 || seen[201] == 0 {
		t.Errorf("no results of 200 and 201 nodes: %v", seen)
	}
}

// TestExprOfByTable: random automata, whose expressions have their words.
func TestExprOfByTable(t *testing.T) {
	r := rand.New(rand.NewSource(34))
	good, limits, compared := 0, 0, 0
	for i := range 500 {
		g := []impl.Sig{sig01, sig11, sig12, {Tests: 0, Actions: 3}, {Tests: 2}, {Tests: 2, Actions: 1}}[i%6]
		a := randomAutomaton(r, g, 1+r.Intn(4))
		expected, second := exprOf(a)
		e, code := impl.ExprOf(a)
		want(t, "expression of "+impl.AutomatonText(a), list(textOf(e), code), list(textOf(expected), second))
		if code != impl.OK {
			limits++
			continue
		}
		good++
		for n := range 3 {
			for _, w := range wordsOfLength(g, n) {
				yes, _ := impl.Matches(g, e, w)
				want(t, impl.WordText(g, w)+" of "+textOf(e), yes, accepted(a, 0, w))
			}
		}
		b, code := impl.AutomatonOf(g, e)
		if code == impl.OK {
			compared++
			x, _ := impl.LeastAutomaton(a)
			y, _ := impl.LeastAutomaton(b)
			want(t, "words of "+textOf(e), impl.AutomatonText(y), impl.AutomatonText(x))
		}
	}
	if good < 200 || limits < 10 || compared < 150 {
		t.Errorf("%d expressions, %d limits and %d automata are too few", good, limits, compared)
	}
}

// TestAutomataOfExpressions goes once round: from expressions to automata and
// back, which changes no words.
func TestAutomataOfExpressions(t *testing.T) {
	r := rand.New(rand.NewSource(35))
	rounds := 0
	for i := range 200 {
		g := []impl.Sig{sig11, sig12, {Tests: 0, Actions: 2}}[i%3]
		a, code := impl.AutomatonOf(g, randomExpr(r, g, 3))
		if code != impl.OK {
			continue
		}
		least, _ := impl.LeastAutomaton(a)
		e, code := impl.ExprOf(least)
		if code != impl.OK {
			continue
		}
		if b, code := impl.AutomatonOf(g, e); code == impl.OK {
			rounds++
			again, _ := impl.LeastAutomaton(b)
			want(t, "round of "+textOf(e), impl.AutomatonText(again), impl.AutomatonText(least))
			minus, _ := impl.MixAutomata(a, b, impl.MixMinus)
			w, code := impl.FirstAccepted(minus)
			want(t, "no difference", list(w, code), list(impl.Word{}, impl.ErrNotFound))
		}
	}
	if rounds < 100 {
		t.Errorf("only %d of the rounds end", rounds)
	}
	_, code := impl.ExprOf(mustAutomaton(t, "automaton 3 4\nstate"+strings.Repeat(" +:0:0:0:0", 8)+"\n"))
	want(t, "all words have too many nodes", code, impl.ErrLimit)
}
