package tests

import (
	"math"
	"math/rand"
	"slices"
	"strconv"
	"strings"
	"testing"

	"loop.example/g01101/impl"
)

// This file tests automata as values: which are valid, their texts, and the
// words that they accept.

// badAutomata are automata that are not valid: in each of them one thing is
// wrong with a valid automaton of two states, for one test and two actions.
func badAutomata() map[string]impl.Automaton {
	bad := map[string]impl.Automaton{}
	change := func(name string, f func(a *impl.Automaton)) {
		a := impl.Automaton{Sig: sig12, Accept: [][]bool{{true, false}, {false, true}},
			Next: [][][]int64{{{1, -1}, {0, 1}}, {{-1, -1}, {1, 0}}}}
		f(&a)
		bad[name] = a
	}
	change("zero", func(a *impl.Automaton) { *a = impl.Automaton{} })
	change("no states", func(a *impl.Automaton) { a.Accept, a.Next = nil, nil })
	change("no Accept", func(a *impl.Automaton) { a.Accept = nil })
	change("no Next", func(a *impl.Automaton) { a.Next = nil })
	change("Accept of one state too few", func(a *impl.Automaton) { a.Accept = a.Accept[:1] })
	change("Next of one state too few", func(a *impl.Automaton) { a.Next[0][0][0], a.Next = 0, a.Next[:1] })
	change("Accept of a state too many", func(a *impl.Automaton) { a.Accept = append(a.Accept, []bool{true, true}) })
	change("Next of a state too many", func(a *impl.Automaton) { a.Next = append(a.Next, a.Next[0]) })
	for s := range 2 {
		state := " of state " + strconv.Itoa(s)
		change("no accepted atoms"+state, func(a *impl.Automaton) { a.Accept[s] = nil })
		change("an accepted atom too few"+state, func(a *impl.Automaton) { a.Accept[s] = a.Accept[s][:1] })
		change("an accepted atom too many"+state, func(a *impl.Automaton) { a.Accept[s] = append(a.Accept[s], true) })
		change("no rows"+state, func(a *impl.Automaton) { a.Next[s] = nil })
		change("a row too few"+state, func(a *impl.Automaton) { a.Next[s] = a.Next[s][:1] })
		change("a row too many"+state, func(a *impl.Automaton) { a.Next[s] = append(a.Next[s], []int64{0, 0}) })
		for atom := range 2 {
			row := state + " and atom " + strconv.Itoa(atom)
			change("no actions"+row, func(a *impl.Automaton) { a.Next[s][atom] = nil })
			change("an action too few"+row, func(a *impl.Automaton) { a.Next[s][atom] = a.Next[s][atom][:1] })
			change("an action too many"+row, func(a *impl.Automaton) { a.Next[s][atom] = append(a.Next[s][atom], 0) })
			for act := range 2 {
				for _, x := range []int64{-2, 2, 60, math.MinInt64, math.MaxInt64} {
					change(strconv.FormatInt(x, 10)+" for action "+strconv.Itoa(act)+row, func(a *impl.Automaton) { a.Next[s][atom][act] = x })
				}
			}
		}
	}
	for i, g := range append([]impl.Sig{sig00, sig01, sig11, sig34, {Tests: 2, Actions: 2}, {Tests: 1, Actions: 3}}, badSigs...) {
		change("signature "+strconv.Itoa(i), func(a *impl.Automaton) { a.Sig = g })
	}
	bad["61 states"] = chain(61, 0)
	four := impl.Automaton{Sig: impl.Sig{Tests: 4}, Accept: [][]bool{make([]bool, 16)}, Next: [][][]int64{make([][]int64, 16)}}
	bad["four tests"] = four
	bad["five actions"] = impl.Automaton{Sig: impl.Sig{Actions: 5}, Accept: [][]bool{{true}}, Next: [][][]int64{{make([]int64, 5)}}}
	return bad
}

func TestAutomatonConstants(t *testing.T) {
	want(t, "constants", list(impl.MaxStates, impl.MaxDerived, impl.MixUnion, impl.MixMeet, impl.MixMinus), "[60 800 1 2 3]")
}

func TestValidAutomaton(t *testing.T) {
	for name, a := range badAutomata() {
		want(t, name, list(impl.ValidAutomaton(a), impl.AutomatonText(a)), list(false, ""))
	}
	r := rand.New(rand.NewSource(20))
	for tests := range int64(4) {
		for actions := range int64(5) {
			for _, states := range []int{1, 2, 59, 60} {
				a := randomAutomaton(r, impl.Sig{Tests: tests, Actions: actions}, states)
				want(t, "a good one", impl.ValidAutomaton(a), true)
				a.Accept, a.Next = slices.Repeat(a.Accept, 61), slices.Repeat(a.Next, 61)
				want(t, "too many states", impl.ValidAutomaton(a), false)
			}
		}
	}
	want(t, "good chains", list(impl.ValidAutomaton(chain(1, 0)), impl.ValidAutomaton(chain(60, 59)), impl.ValidAutomaton(chain(60, -1))),
		list(true, true, true))
	want(t, "empty lists", list(impl.ValidAutomaton(impl.Automaton{Accept: [][]bool{{false}}, Next: [][][]int64{{nil}}}),
		impl.ValidAutomaton(impl.Automaton{Accept: [][]bool{{true}}, Next: [][][]int64{{{}}}})), list(true, true))
}

func TestSameAutomaton(t *testing.T) {
	made := func() impl.Automaton {
		return impl.Automaton{Sig: sig12, Accept: [][]bool{{true, false}, {false, true}},
			Next: [][][]int64{{{1, -1}, {0, 1}}, {{-1, -1}, {1, 0}}}}
	}
	a, others := made(), badAutomata()
	others["another atom"], others["another state"] = made(), made()
	others["another atom"].Accept[1][1], others["another state"].Next[1][1][1] = false, 1
	others["states exchanged"] = impl.Automaton{Sig: a.Sig, Accept: [][]bool{a.Accept[1], a.Accept[0]}, Next: [][][]int64{a.Next[1], a.Next[0]}}
	for name, b := range others {
		if impl.SameAutomaton(a, b) || impl.SameAutomaton(b, a) {
			t.Errorf("%s: not the same", name)
		}
		want(t, name+" and itself", impl.SameAutomaton(b, impl.Automaton{Sig: b.Sig, Accept: slices.Clone(b.Accept), Next: slices.Clone(b.Next)}), true)
	}
	want(t, "the same", list(impl.SameAutomaton(a, made()), impl.SameAutomaton(impl.Automaton{}, impl.Automaton{Accept: [][]bool{}, Next: [][][]int64{}}),
		impl.SameAutomaton(impl.Automaton{Next: [][][]int64{{nil}, nil}}, impl.Automaton{Next: [][][]int64{{{}}, {}}})), list(true, true, true))
}

func TestAutomatonText(t *testing.T) {
	long := "automaton 0 1\n"
	for i := range 59 {
		long += "state -:" + strconv.Itoa(i+1) + "\n"
	}
	rows := map[string]impl.Automaton{
		"automaton 1 1\nstate +:. +:0\n":                        automatonOf(t, sig11, "(t0 a0)*"),
		"automaton 0 0\nstate -\n":                              automatonOf(t, sig00, "0"),
		"automaton 0 0\nstate +\n":                              automatonOf(t, sig00, "1"),
		"automaton 2 0\nstate - - + +\n":                        automatonOf(t, impl.Sig{Tests: 2}, "t1"),
		"automaton 0 4\nstate -:.:1:.:.\nstate +:.:.:.:.\n":     automatonOf(t, sig04, "a1"),
		"automaton 1 2\nstate -:.:1 -:.:1\nstate +:.:. -:.:.\n": automatonOf(t, sig12, "(a1 ~t0)"),
		"automaton 1 2\nstate +:1:. -:0:1\nstate -:.:. +:1:0\n": {Sig: sig12, Accept: [][]bool{{true, false}, {false, true}},
			Next: [][][]int64{{{1, -1}, {0, 1}}, {{-1, -1}, {1, 0}}}},
		long + "state +:10\n": chain(60, 10),
	}
	for text, a := range rows {
		want(t, "text", impl.AutomatonText(a), text)
		got, code := impl.ReadAutomaton(text)
		want(t, "read "+text, list(got, code), list(a, impl.OK))
	}
	r := rand.New(rand.NewSource(21))
	for i := range 300 {
		a := randomAutomaton(r, impl.Sig{Tests: int64(i % 4), Actions: int64(i % 5)}, 1+i%60)
		got, code := impl.ReadAutomaton(impl.AutomatonText(a))
		want(t, "read again", list(impl.SameAutomaton(got, a), code), list(true, impl.OK))
	}
}

func TestReadAutomatonErrors(t *testing.T) {
	first := "automaton 1 1\n"
	bad := []string{"", "\n", " ", "automaton", "automaton 1 1", first, first + "\n", "automaton 1\nstate +:. +:.\n",
		"automaton  1 1\nstate +:. +:.\n", "automaton 1 1 \nstate +:. +:.\n", " automaton 1 1\nstate +:. +:.\n", "automaton 1  1\nstate +:. +:.\n",
		"automaton 1 1 1\nstate +:. +:.\n", "Automaton 1 1\nstate +:. +:.\n", "automat 1 1\nstate +:. +:.\n", "automaton 1 1\r\nstate +:. +:.\n",
		"automaton 01 1\nstate +:. +:.\n", "automaton 1 01\nstate +:. +:.\n", "automaton 00 0\nstate +\n", "automaton 0 00\nstate +\n",
		"automaton -1 1\nstate +:.\n", "automaton +0 0\nstate +\n", "automaton 0 -0\nstate +\n", "automaton 0 -1\nstate +\n", "automaton x 1\nstate +:.\n",
		"automaton 4 0\nstate + + + + + + + + + + + + + + + +\n", "automaton 0 5\nstate +:.:.:.:.:.\n",
		"automaton 18446744073709551616 0\nstate +\n", "automaton 0 4294967296\nstate +\n", "automaton 62 0\nstate +\n", "automaton 999999999999 0\nstate +\n",
		first + "state +:. +:.", first + "state +:. +:.\n\n", first + "state +:. +:.\n ", first + "state +:. +:.\nx", first + "state +:. +:.\n\x00",
		first + "state +:. +:.\nstate", first + "state +:. +:.\nstate +:. +:.", first + "state +:. +:.\n" + first + "state +:. +:.\n",
		first + "\nstate +:. +:.\n", first + "state +:. +:. \n", first + "state  +:. +:.\n", first + "state +:.  +:.\n", first + " state +:. +:.\n",
		first + "state +:. +:.\r\n", first + "State +:. +:.\n", first + "state+:. +:.\n", first + "state +:.+:.\n", first + "state\t+:. +:.\n",
		first + "state +:.\n", first + "state +:. +:. +:.\n", first + "state\n", first + "state + +\n", first + "state +:.:. +:.:.\n", first + "state +. +.\n",
		first + "state +: +:.\n", first + "state +:.. +:.\n", first + "state +: . +:.\n", first + "state + :. +:.\n", first + "state +;. +:.\n",
		first + "state *:. +:.\n", first + "state :. +:.\n", first + "state ++:. +:.\n", first + "state +-:. +:.\n", first + "state 1:. 0:.\n",
		first + "state +:00 +:.\n", first + "state +:. +:00\n", first + "state +:0 +:-1\n", first + "state +:-0 +:.\n", first + "state +:+0 +:.\n",
		first + "state +:1 +:.\n", first + "state +:. +:1\n", first + "state +:2 +:1\nstate +:. +:.\n", first + "state +:1 +:01\nstate +:. +:.\n",
		first + "state +:0x0 +:.\n", first + "state +:18446744073709551616 +:.\n", first + "state +:99999999999999999999 +:.\n", first + "state +:9 +:.\n",
		"automaton 0 0\nstate\n", "automaton 0 0\nstate + \n", "automaton 0 0\nstate +:\n", "automaton 0 0\nstate +:.\n", "automaton 0 1\nstate +\n"}
	for _, text := range bad {
		a, code := impl.ReadAutomaton(text)
		want(t, "read "+text, list(a, code), list(impl.Automaton{}, impl.ErrSyntax))
	}
	for states, wanted := range map[int]int{1: impl.OK, 59: impl.OK, 60: impl.OK, 61: impl.ErrSyntax, 120: impl.ErrSyntax} {
		for _, g := range []string{"0 0\n", "1 1\n"} {
			row := map[string]string{"0 0\n": "state +\n", "1 1\n": "state -:0 -:.\n"}[g]
			a, code := impl.ReadAutomaton("automaton " + g + strings.Repeat(row, states))
			want(t, "number of states", list(len(a.Accept) == states, code), list(wanted == impl.OK, wanted))
		}
	}
	good := impl.AutomatonText(automatonOf(t, sig12, "((t0 a1) + (a0 a0*))"))
	for i := range good { // each byte counts: what is read has just this text
		for _, text := range []string{good[:i], good[:i] + good[i+1:], good[:i] + " " + good[i:], good[:i] + "0" + good[i:], good[:i] + "2" + good[i+1:]} {
			a, code := impl.ReadAutomaton(text)
			if code == impl.OK && impl.AutomatonText(a) != text || code != impl.OK && code != impl.ErrSyntax {
				t.Errorf("%q is read as %q with the code %d", text, impl.AutomatonText(a), code)
			}
		}
	}
}

func TestRunAutomaton(t *testing.T) {
	a := mustAutomaton(t, "automaton 1 2\nstate +:1:. -:0:1\nstate -:.:. +:1:0\n")
	rows := map[string]bool{
		"0": true, "1": false, "0 a0 0": false, "0 a0 1": true, "0 a1 0": false, "0 a1 1": false, "1 a0 0": true, "1 a0 1": false,
		"1 a1 1": true, "1 a1 1 a1 0": true, "1 a1 1 a1 1": false, "0 a0 0 a0 0": false, "0 a0 0 a0 1": false, "0 a1 0 a0 0 a0 1": false,
		"0 a0 1 a0 1": true, "0 a0 1 a1 0": true, "1 a0 1 a0 1 a0 0": true,
		"1" + strings.Repeat(" a1 1", 10): false, "1" + strings.Repeat(" a1 1", 9) + " a1 0": true, "1" + strings.Repeat(" a1 1", 9): true,
	}
	for text, yes := range rows {
		got, code := impl.RunAutomaton(a, mustWord(t, sig12, text))
		want(t, "run "+text, list(got, code), list(yes, impl.OK))
	}
	w := impl.Word{Atoms: []int64{0}}
	for name, bad := range badAutomata() {
		got, code := impl.RunAutomaton(bad, w)
		want(t, name, list(got, code), list(false, impl.ErrInvalid))
	}
	for name, bad := range badWords() {
		got, code := impl.RunAutomaton(a, bad)
		want(t, name, list(got, code), list(false, impl.ErrInvalid))
	}
	others := []impl.Word{{Atoms: []int64{1}}, {Atoms: []int64{0, 1}, Acts: []int64{0}}, {Atoms: []int64{0, 0}, Acts: []int64{1}}}
	for _, bad := range others { // words of another signature, the last one behind the end
		got, code := impl.RunAutomaton(automatonOf(t, sig01, "a0*"), bad)
		want(t, "another signature", list(got, code), list(false, impl.ErrInvalid))
	}
	got, code := impl.RunAutomaton(automatonOf(t, impl.Sig{Tests: 3}, "(t0 t2)"), impl.Word{Atoms: []int64{7}})
	want(t, "no actions", list(got, code), list(true, impl.OK))
	r := rand.New(rand.NewSource(22))
	for i := range 200 {
		g := []impl.Sig{sig11, sig12, sig34}[i%3]
		a := randomAutomaton(r, g, 1+i%9)
		for range 20 {
			w := randomWord(r, g, r.Intn(6))
			got, code := impl.RunAutomaton(a, w)
			want(t, "run", list(got, code), list(accepted(a, 0, w), impl.OK))
		}
	}
}

func TestAcceptedCount(t *testing.T) {
	all := mustAutomaton(t, "automaton 3 4\nstate"+strings.Repeat(" +:0:0:0:0", 8)+"\n")
	loops := mustAutomaton(t, "automaton 1 1\nstate -:1 -:.\nstate +:0 -:1\n") // comes back to the state 0
	total := int64(8)
	for length := range int64(11) {
		first, code := impl.AcceptedCount(all, length)
		none, second := impl.AcceptedCount(automatonOf(t, sig00, "0"), length)
		want(t, "all and none", list(first, code, none, second), list(total, impl.OK, 0, impl.OK))
		total *= 32
		fibonacci := []int64{0, 1, 1, 2, 3, 5, 8, 13, 21, 34, 55}[length]
		count, code := impl.AcceptedCount(loops, length)
		want(t, "loops", list(count, code), list(fibonacci, impl.OK))
		chained := []int64{0, 0, 0, 0, 0, 0, 0, 0, 0, 1, 0}[length]
		count, code = impl.AcceptedCount(chain(10, -1), length)
		want(t, "a chain", list(count, code), list(chained, impl.OK))
	}
	for _, length := range []int64{-1, 11, math.MinInt64, math.MaxInt64} {
		count, code := impl.AcceptedCount(all, length)
		want(t, "length", list(count, code), list(0, impl.ErrRange))
		for name, bad := range badAutomata() {
			count, code := impl.AcceptedCount(bad, length)
			want(t, name, list(count, code), list(0, impl.ErrInvalid))
		}
	}
	r := rand.New(rand.NewSource(23))
	for i := range 200 {
		g := []impl.Sig{sig11, sig12, {Tests: 2, Actions: 2}, {Tests: 2}}[i%4]
		a := randomAutomaton(r, g, 1+i%5)
		for length := range 4 {
			expected := 0
			for _, w := range wordsOfLength(g, length) {
				if accepted(a, 0, w) {
					expected++
				}
			}
			count, code := impl.AcceptedCount(a, int64(length))
			want(t, "count", list(count, code), list(expected, impl.OK))
		}
	}
}

func TestFirstAccepted(t *testing.T) {
	rows := []struct {
		g           impl.Sig
		expr, first string
		code        int
	}{
		{sig11, "1", "0", impl.OK}, {sig11, "t0", "1", impl.OK}, {sig34, "(t1 ~t0)", "2", impl.OK}, {sig11, "a0", "0 a0 0", impl.OK},
		{sig11, "(t0 (a0 t0))", "1 a0 1", impl.OK}, {sig11, "((a0 a0) + t0)", "1", impl.OK}, {sig12, "(a1 + (a0 a0))", "0 a1 0", impl.OK},
		{sig12, "((t0 a0) + (~t0 a1))", "0 a1 0", impl.OK}, {sig12, "(a1 + a0)", "0 a0 0", impl.OK}, {sig12, "((a0 t0) + a1)", "0 a0 1", impl.OK},
		{sig12, "((a0 (t0 (a0 0))) + (a1 (t0 a0)))", "0 a1 1 a0 0", impl.OK}, {sig12, "((a0 (a0 a0)) + (a1 a0))", "0 a1 0 a0 0", impl.OK},
		{sig12, "((t0 (a0 a1)) + (~t0 (a1 (t0 (a1 + a0)))))", "0 a1 1 a0 0", impl.OK},
		{sig11, "0", "", impl.ErrNotFound}, {sig11, "(t0 ~t0)", "", impl.ErrNotFound}, {sig11, "(a0 (t0 ~t0))", "", impl.ErrNotFound},
		{sig11, "(a0* (a0 (t0 (a0 ~1))))", "", impl.ErrNotFound}, {sig00, "0", "", impl.ErrNotFound}, {sig00, "1", "0", impl.OK},
		{sig01, balanced(10, "a0", " "), "0" + strings.Repeat(" a0 0", 10), impl.OK}, {sig01, balanced(11, "a0", " "), "", impl.ErrLimit},
		{sig01, balanced(59, "a0", " "), "", impl.ErrLimit}, {sig01, balanced(30, "a0", " ") + "*", "0", impl.OK},
	}
	for _, r := range rows {
		w, code := impl.FirstAccepted(automatonOf(t, r.g, r.expr))
		want(t, "first of "+r.expr, list(impl.WordText(r.g, w), code), list(r.first, r.code))
	}
	for states, wanted := range map[int]int{11: impl.OK, 12: impl.ErrLimit, 60: impl.ErrLimit} {
		w, code := impl.FirstAccepted(chain(states, 0))
		want(t, "a chain", list(len(w.Acts) == states-1, code), list(wanted == impl.OK, wanted))
		dead := chain(states, 0)
		dead.Accept[states-1][0] = false
		w, code = impl.FirstAccepted(dead)
		want(t, "a dead chain", list(w, code), list(impl.Word{}, impl.ErrNotFound))
	}
	unreachable := mustAutomaton(t, "automaton 0 1\nstate -:0\nstate +:1\n")
	w, code := impl.FirstAccepted(unreachable)
	want(t, "accepted where nothing leads", list(w, code), list(impl.Word{}, impl.ErrNotFound))
	for name, bad := range badAutomata() {
		w, code := impl.FirstAccepted(bad)
		want(t, name, list(w, code), list(impl.Word{}, impl.ErrInvalid))
	}
}

// TestFirstAcceptedByWords: the first one of all accepted words, in order.
func TestFirstAcceptedByWords(t *testing.T) {
	r := rand.New(rand.NewSource(24))
	seen, none := [4]int{}, 0
	for i := range 600 {
		g := []impl.Sig{sig11, sig12, {Tests: 2, Actions: 2}}[i%3]
		a := randomAutomaton(r, g, 2+i%6)
		for s := range a.Accept[:len(a.Accept)-1] { // only the last state accepts, so that words are longer
			clear(a.Accept[s])
			for _, row := range a.Next[s] {
				for act, next := range row {
					row[act] = min(next, int64(s+1))
				}
			}
		}
		w, code := impl.FirstAccepted(a)
		if expected, ok := firstUpTo(a, 3); ok {
			want(t, "first", list(w, code), list(expected, impl.OK))
			seen[len(w.Acts)]++
		} else if code == impl.OK {
			want(t, "longer", list(len(w.Acts) > 3, accepted(a, 0, w)), list(true, true))
		} else {
			want(t, "none", list(code, acceptSame(a, a, 0, -1)), list(impl.ErrNotFound, true))
			none++
		}
	}
	if slices.Min(seen[1:]) < 20 || none < 20 {
		t.Errorf("%d words of some lengths, and %d automata without words, are too few", seen, none)
	}
}

// firstUpTo looks for the first accepted word up to a length among all words.
func firstUpTo(a impl.Automaton, length int) (impl.Word, bool) {
	for n := range length + 1 {
		for _, w := range wordsOfLength(a.Sig, n) {
			if accepted(a, 0, w) {
				return w, true
			}
		}
	}
	return impl.Word{}, false
}
