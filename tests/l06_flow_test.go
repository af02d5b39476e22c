package tests

import (
	"math"
	"math/rand"
	"slices"
	"strconv"
	"strings"
	"testing"

	"loop.example/g01101/impl"
)

// This file tests flowcharts: promise 15.

// flowOf is the text of the flowchart of a program, and the code.
func flowOf(t *testing.T, g impl.Sig, text string) (string, int64) {
	t.Helper()
	f, code := impl.FlowOf(g, mustProg(t, g, text))
	return impl.FlowText(g, f), code
}

// mustFlow reads the text of a flowchart that has to be valid.
func mustFlow(t *testing.T, g impl.Sig, text string) impl.Flow {
	t.Helper()
	lines := strings.Split(strings.TrimSuffix(text, "\n"), "\n")
	number := func(word string) int64 {
		n, _ := strconv.ParseInt(word, 10, 64)
		return n
	}
	f := impl.Flow{Start: number(strings.TrimPrefix(lines[0], "start "))}
	for _, line := range lines[1:] {
		words := strings.Split(line, " ")
		s := impl.Spot{Kind: map[string]int64{"halt": impl.FHalt, "fail": impl.FFail, "test": impl.FTest}[words[0]]}
		switch s.Kind {
		case 0:
			s.Kind, s.Num, s.To = impl.FAct, number(words[0][1:]), number(words[1])
		case impl.FTest:
			s.Cond = mustExpr(t, g, strings.Join(words[1:len(words)-2], " "))
			s.To, s.Else = number(words[len(words)-2]), number(words[len(words)-1])
		}
		f.Spots = append(f.Spots, s)
	}
	want(t, "text of a flowchart", list(impl.ValidFlow(g, f), impl.FlowText(g, f)), list(true, text))
	return f
}

func TestFlowOf(t *testing.T) {
	for text, wanted := range map[string]string{
		"skip": "start 0\nhalt\n", "fail": "start 1\nhalt\nfail\n", "a1": "start 1\nhalt\na1 0\n", "assert ~t0": "start 2\nhalt\nfail\ntest ~t0 0 1\n",
		"{skip; skip}": "start 0\nhalt\n", "{a0; a1}": "start 2\nhalt\na1 0\na0 1\n", "{a0; {a1; a0}}": "start 3\nhalt\na0 0\na1 1\na0 2\n", "{{a0; a1}; a0}": "start 3\nhalt\na0 0\na1 1\na0 2\n",
		"{a0; skip}": "start 1\nhalt\na0 0\n", "{skip; a0}": "start 1\nhalt\na0 0\n", "{fail; a0}": "start 2\nhalt\na0 0\nfail\n", "{a0; fail}": "start 2\nhalt\nfail\na0 1\n", "{assert t0; assert t1}": "start 4\nhalt\nfail\ntest t1 0 1\nfail\ntest t0 2 3\n",
		"if t0 then a0 else a1 fi": "start 3\nhalt\na0 0\na1 0\ntest t0 1 2\n", "if t0 then skip else skip fi": "start 1\nhalt\ntest t0 0 0\n", "if t0 then a0 else skip fi": "start 2\nhalt\na0 0\ntest t0 1 0\n", "if t0 then skip else fail fi": "start 2\nhalt\nfail\ntest t0 0 1\n",
		"if t0 then if t1 then a0 else a1 fi else assert t1 fi": "start 6\nhalt\na0 0\na1 0\ntest t1 1 2\nfail\ntest t1 0 4\ntest t0 3 5\n", "{if t0 then {a0; a0} else a1 fi; a0}": "start 5\nhalt\na0 0\na0 1\na0 2\na1 1\ntest t0 3 4\n",
		"while t0 do a0 od": "start 1\nhalt\ntest t0 2 0\na0 1\n", "while 1 do skip od": "start 1\nhalt\ntest 1 1 0\n", "while t0 do fail od": "start 1\nhalt\ntest t0 2 0\nfail\n", "while t0 do {a0; a1} od": "start 1\nhalt\ntest t0 3 0\na1 1\na0 2\n",
		"while t0 do while t1 do a0 od od": "start 1\nhalt\ntest t0 2 0\ntest t1 3 1\na0 2\n", "while t0 do while t1 do skip od od": "start 1\nhalt\ntest t0 2 0\ntest t1 2 1\n", "while (t0 + t1) do assert t0 od": "start 1\nhalt\ntest (t0 + t1) 3 0\nfail\ntest t0 1 2\n",
		"{while t0 do a0 od; while t1 do a1 od}": "start 3\nhalt\ntest t1 2 0\na1 1\ntest t0 4 1\na0 3\n", "{a0; while t0 do if t1 then a1 else {skip; a0} fi od}": "start 5\nhalt\ntest t0 4 0\na1 1\na0 1\ntest t1 2 3\na0 1\n",
	} {
		got, code := flowOf(t, sig22, text)
		want(t, "flowchart of "+text, list(got, code), list(wanted, impl.OK))
		byRules, _ := flowByRules(mustProg(t, sig22, text))
		want(t, "by the rules", byRules, wanted)
	}
	r := rand.New(rand.NewSource(151))
	for range 2000 {
		p := randomProg(r, sig34, 1+r.Intn(5))
		f, code := impl.FlowOf(sig34, p)
		text, _ := flowByRules(p)
		want(t, "flowchart of "+progByTable(p), list(impl.FlowText(sig34, f), code, impl.ValidFlow(sig34, f)), list(text, impl.OK, true))
	}
}

func TestFlowOfErrors(t *testing.T) {
	for name, p := range badProgs() {
		f, code := impl.FlowOf(sig22, p)
		want(t, name, list(f, code), list(impl.Flow{}, impl.ErrInvalid))
	}
	for _, g := range badSigs {
		f, code := impl.FlowOf(g, skip)
		want(t, "a bad signature", list(f, code), list(impl.Flow{}, impl.ErrInvalid))
	}
	for _, row := range []struct {
		name string
		p    impl.Prog
		code int
	}{
		{"60 spots", seq(evenly(29, assert(test(0))), do(0)), impl.OK},
		{"61 spots", evenly(30, assert(test(0))), impl.ErrLimit},
		{"60 spots and a program that adds none", seq(evenly(28, assert(test(0))), loops(3, skip)), impl.OK},
		{"61 spots of 60 nodes", seq(evenly(28, assert(test(0))), while(one, ifThen(one, do(0), do(0)))), impl.ErrLimit},
		{"60 spots in a loop", while(one, evenly(29, assert(test(0)))), impl.OK},
		{"61 spots behind a loop", seq(while(one, evenly(29, assert(test(0)))), do(0)), impl.ErrLimit},
		{"61 spots of a choice", ifThen(one, evenly(29, assert(test(0))), do(0)), impl.ErrLimit},
		{"31 spots of actions", while(one, evenly(29, do(0))), impl.OK},
		{"31 spots that fail", evenly(30, failing), impl.OK},
		{"one spot", evenly(30, skip), impl.OK},
	} {
		f, code := impl.FlowOf(sig12, row.p)
		text, spots := flowByRules(row.p)
		want(t, row.name, list(code, spots > 60, impl.FlowText(sig12, f) == text), list(row.code, row.code != impl.OK, row.code == impl.OK))
	}
}

func TestValidFlow(t *testing.T) {
	for name, f := range badFlows() {
		want(t, name, list(impl.ValidFlow(sig22, f), impl.FlowText(sig22, f)), list(false, ""))
	}
	r := rand.New(rand.NewSource(152))
	for tests := range int64(4) {
		for actions := range int64(5) {
			g := impl.Sig{Tests: tests, Actions: actions}
			for _, spots := range []int64{1, 2, 59, 60} {
				f := randomFlow(r, g, spots)
				want(t, "a good one", list(impl.ValidFlow(g, f), impl.FlowText(g, f)), list(true, flowByTable(f)))
			}
			want(t, "61 spots", impl.ValidFlow(g, randomFlow(r, g, 61)), false)
		}
	}
	large := tree(impl.ENot, mustExpr(t, sig22, balanced(100, "t1", " ")))
	f := impl.Flow{Start: 59, Spots: slices.Repeat([]impl.Spot{{Kind: impl.FTest, Cond: large, To: 59, Else: 59}}, 60)}
	want(t, "large conditions", list(impl.ValidFlow(sig22, f), impl.FlowText(sig22, f)), list(true, flowByTable(f)))
	want(t, "empty lists", impl.ValidFlow(sig22, impl.Flow{Spots: []impl.Spot{{Kind: impl.FHalt, Cond: impl.Expr{Kids: []impl.Expr{}}}}}), true)
	for _, g := range badSigs {
		f := impl.Flow{Spots: []impl.Spot{{Kind: impl.FHalt}}}
		want(t, "a bad signature", list(impl.ValidFlow(g, f), impl.FlowText(g, f)), list(false, ""))
	}
}

func TestFlowText(t *testing.T) {
	text := "start 3\nhalt\nfail\na1 11\ntest ((t0 + 0) ~~t1) 2 10\na0 0\nhalt\nhalt\nfail\nfail\na0 9\ntest 1 10 10\nhalt\n"
	f := impl.Flow{Start: 3}
	c := tree(impl.EDot, tree(impl.ESum, test(0), zero), nested(impl.ENot, 2, test(1)))
	f.Spots = []impl.Spot{{Kind: impl.FHalt}, {Kind: impl.FFail}, {Kind: impl.FAct, Num: 1, To: 11}, {Kind: impl.FTest, Cond: c, To: 2, Else: 10}, {Kind: impl.FAct}, {Kind: impl.FHalt}, {Kind: impl.FHalt},
		{Kind: impl.FFail}, {Kind: impl.FFail}, {Kind: impl.FAct, To: 9}, {Kind: impl.FTest, Cond: one, To: 10, Else: 10}, {Kind: impl.FHalt}}
	want(t, "text", list(impl.FlowText(sig22, f), flowByTable(f)), list(text, text))
	want(t, "other signatures", list(impl.FlowText(sig12, f), impl.FlowText(impl.Sig{Tests: 2, Actions: 1}, f), impl.FlowText(sig34, f)), list("", "", text))
}

// runFlowOf is RunFlow with its results as a list.
func runFlowOf(g impl.Sig, w impl.World, f impl.Flow, state, fuel int64) []any {
	return list(impl.RunFlow(g, w, f, state, fuel))
}

func TestFlowSteps(t *testing.T) {
	checkSteps(t, []stepRow{
		{"start 0\nhalt\n", 0, 0, "0 1"}, {"start 1\nfail\nhalt\n", 2, 0, "2 0"}, {"start 0\nfail\n", 0, 1, "4"}, {"start 1\nhalt\nfail\n", 0, 1, "4"}, {"start 1\nhalt\na0 0\n", 0, 1, "1 1 a0 2"}, {"start 1\nhalt\na0 0\n", 2, 1, "4"},
		{"start 1\nhalt\ntest t0 0 2\nfail\n", 0, 1, "0 1"}, {"start 1\nhalt\ntest t0 0 2\nfail\n", 1, 2, "4"}, {"start 1\nhalt\ntest t0 0 0\n", 1, 1, "1 2"}, {"start 1\nhalt\ntest t0 2 0\na0 1\n", 0, 3, "1 1 a0 2"},
		{"start 1\nhalt\na0 1\n", 0, 3, "4"}, {"start 2\nhalt\ntest (t0 + t1) 2 0\na0 1\n", 0, 4, "2 1 a0 2 a0 0"}, {"start 3\nhalt\nhalt\ntest 1 1 0\ntest 0 0 2\nfail\n", 1, 2, "1 2"}, {"start 1\nhalt\na1 2\na1 3\na0 0\n", 0, 3, "1 1 a1 1 a1 1 a0 2"},
	}, func(row stepRow, fuel int64) []any {
		return runFlowOf(sig22, threeStates(), mustFlow(t, sig22, row.text), row.state, fuel)
	})
	for _, text := range []string{"start 0\ntest 1 0 0\n", "start 1\nhalt\ntest t0 2 0\ntest t1 0 1\n", "start 1\nhalt\na1 1\n", "start 1\nhalt\ntest t0 2 1\na1 1\n"} { // none of these ends in the state 0
		for _, fuel := range []int64{0, 1, 2, 499, 500} {
			want(t, text, runFlowOf(sig22, threeStates(), mustFlow(t, sig22, text), 0, fuel), list(0, impl.Word{}, 0, impl.ErrBudget))
		}
	}
}

// TestMostFlowSteps: 500 steps are made, and not 501.
func TestMostFlowSteps(t *testing.T) {
	w := lineWorld(sig12, 12)
	flow := func(before int64) impl.Flow { // some tests, and then rounds of 45 steps
		f := impl.Flow{Start: 46, Spots: []impl.Spot{{Kind: impl.FHalt}, {Kind: impl.FTest, Cond: test(0), To: 2}}}
		for i := int64(2); i < 46+before; i++ {
			s := impl.Spot{Kind: impl.FTest, Cond: one, To: i + 1}
			if i == 45 {
				s = impl.Spot{Kind: impl.FAct, To: 1}
			}
			if i == 45+before {
				s.To = 1
			}
			f.Spots = append(f.Spots, s)
		}
		return f
	}
	state, trace, steps, code := impl.RunFlow(sig12, w, flow(4), 0, 500)
	want(t, "500 steps", list(state, len(trace.Acts), steps, code), list(11, 11, 4+11*45+1, impl.OK))
	want(t, "one too little", runFlowOf(sig12, w, flow(4), 0, 499), list(0, impl.Word{}, 0, impl.ErrBudget))
	want(t, "501 steps", runFlowOf(sig12, w, flow(5), 0, 500), list(0, impl.Word{}, 0, impl.ErrBudget))
}

func TestRunFlowErrors(t *testing.T) {
	w, halt, refused := lineWorld(sig22, 3), impl.Flow{Spots: []impl.Spot{{Kind: impl.FHalt}}}, func(code int) []any { return list(0, impl.Word{}, 0, code) }
	for name, f := range badFlows() {
		want(t, name, runFlowOf(sig22, w, f, 0, 500), refused(impl.ErrInvalid))
		want(t, name+" and bad numbers", runFlowOf(sig22, w, f, 3, 501), refused(impl.ErrInvalid))
	}
	for name, bad := range badWorlds() {
		want(t, name, runFlowOf(sig22, bad, halt, 0, 500), refused(impl.ErrInvalid))
		want(t, name+" and bad numbers", runFlowOf(sig22, bad, halt, -1, -1), refused(impl.ErrInvalid))
	}
	for _, g := range badSigs {
		want(t, "a bad signature", runFlowOf(g, impl.World{Atoms: []int64{0}}, halt, 0, 0), refused(impl.ErrInvalid))
	}
	for _, x := range []int64{-1, 3, math.MinInt64, math.MaxInt64} {
		want(t, "a bad state", runFlowOf(sig22, w, halt, x, 0), refused(impl.ErrRange))
	}
	for _, x := range []int64{-1, 501, math.MinInt64, math.MaxInt64} {
		want(t, "bad fuel", runFlowOf(sig22, w, halt, 0, x), refused(impl.ErrRange))
	}
}

func TestFlowAutomaton(t *testing.T) {
	for text, wanted := range map[string]string{
		"start 0\nhalt\n": "state +:. +:.\n", "start 0\nfail\n": "state -:. -:.\n", "start 1\nhalt\na0 0\n": "state -:1 -:1\nstate +:. +:.\n", "start 1\nhalt\na0 1\n": "state -:0 -:0\n", "start 0\na0 0\n": "state -:0 -:0\n",
		"start 1\nhalt\ntest t0 2 0\na0 1\n": "state +:. -:0\n", "start 2\nhalt\ntest t0 2 0\na0 1\n": "state -:1 -:1\nstate +:. -:1\n", // the second state is not the same as the first one, whatever it accepts
		"start 1\nhalt\ntest t0 0 2\nfail\n": "state -:. +:.\n", "start 0\ntest 1 0 0\n": "state -:. -:.\n", "start 1\nhalt\ntest t0 2 0\ntest 0 0 1\n": "state +:. -:.\n", "start 1\nhalt\ntest t0 1 3\ntest t0 1 3\ntest ~t0 0 3\n": "state +:. -:.\n",
		"start 1\nhalt\ntest t0 2 3\na0 4\na0 5\na0 0\na0 0\n": "state -:1 -:2\nstate -:3 -:3\nstate -:3 -:3\nstate +:. +:.\n", // atoms in order
		"start 0\na0 1\na0 2\ntest t0 0 4\nhalt\nhalt\n":       "state -:1 -:1\nstate -:2 -:2\nstate +:. -:1\n", "start 1\na0 1\na0 2\nhalt\na0 0\n": "state -:1 -:1\nstate +:. +:.\n",
	} {
		a, code := impl.FlowAutomaton(sig11, mustFlow(t, sig11, text))
		want(t, "automaton of "+text, list(impl.AutomatonText(a), code), list("automaton 1 1\n"+wanted, impl.OK))
	}
	a, code := impl.FlowAutomaton(sig12, mustFlow(t, sig12, "start 1\nhalt\ntest t0 2 3\na1 0\na0 1\n"))
	want(t, "two actions", list(impl.AutomatonText(a), code), list("automaton 1 2\nstate -:0:. -:.:1\nstate +:.:. +:.:.\n", impl.OK))
	r := rand.New(rand.NewSource(153))
	for i := range 1500 {
		g := []impl.Sig{sig12, sig22, sig34, sig00}[i%4]
		f := randomFlow(r, g, int64(1+i%60))
		a, code := impl.FlowAutomaton(g, f)
		want(t, "automaton", list(impl.SameAutomaton(a, flowAutomaton(g, f)), code, impl.ValidAutomaton(a)), list(true, impl.OK, true))
	}
}

func TestFlowAutomatonLimits(t *testing.T) {
	for name, f := range badFlows() {
		a, code := impl.FlowAutomaton(sig22, f)
		want(t, name, list(a, code), list(impl.Automaton{}, impl.ErrInvalid))
	}
	for _, g := range badSigs {
		a, code := impl.FlowAutomaton(g, impl.Flow{Spots: []impl.Spot{{Kind: impl.FHalt}}})
		want(t, "a bad signature", list(a, code), list(impl.Automaton{}, impl.ErrInvalid))
	}
	f := impl.Flow{Spots: []impl.Spot{}}
	for i := range int64(60) {
		f.Spots = append(f.Spots, impl.Spot{Kind: impl.FAct, To: (i + 1) % 60})
	}
	a, code := impl.FlowAutomaton(sig01, f)
	want(t, "60 states", list(len(a.Accept), a.Next[58], a.Next[59], code), list(60, [][]int64{{59}}, [][]int64{{0}}, impl.OK))
	round := impl.Flow{Start: 59, Spots: slices.Repeat([]impl.Spot{{Kind: impl.FHalt}}, 1)} // as many tests as may be, in a line and round
	for i := range int64(59) {
		round.Spots = append(round.Spots, impl.Spot{Kind: impl.FTest, Cond: test(0), To: i, Else: 59})
	}
	a, code = impl.FlowAutomaton(sig11, round)
	want(t, "59 tests", list(impl.AutomatonText(a), code), list("automaton 1 1\nstate -:. +:.\n", impl.OK))
}

// TestFlowOfPrograms: the flowchart has the words and the runs of its program.
func TestFlowOfPrograms(t *testing.T) {
	r, ends := rand.New(rand.NewSource(154)), map[any]int{}
	for i := range 1500 {
		g := []impl.Sig{sig12, sig22, {Tests: 3, Actions: 2}, sig01, sig00}[i%5]
		p := randomProg(r, g, 1+r.Intn(5))
		f, code := impl.FlowOf(g, p)
		if code != impl.OK {
			continue
		}
		a, code := impl.FlowAutomaton(g, f)
		_, b, ok := statesOf(g, exprByProg(p))
		want(t, "words of "+progByTable(p), list(code, !ok || acceptSame(a, b, 0, 0)), list(impl.OK, true))
		if e, code := impl.ProgExpr(g, p); code == impl.OK && ok {
			same, code := impl.AutomatonOf(g, e)
			least, _ := impl.LeastAutomaton(a)
			other, _ := impl.LeastAutomaton(same)
			want(t, "least automata", list(code, impl.SameAutomaton(least, other)), list(impl.OK, true))
		}
		w := randomWorld(r, g, int64(1+i%8))
		for state := range int64(len(w.Atoms)) {
			first, second := runOf(g, w, p, state, 500), runFlowOf(g, w, f, state, 500)
			want(t, "runs of "+progByTable(p), list(second[:2], second[3]), list(first[:2], first[3]))
			ends[first[3]]++
			for _, fuel := range []int64{500, r.Int63n(12), r.Int63n(501)} {
				want(t, "run by the rules", runFlowOf(g, w, f, state, fuel), runFlowByRules(w, f, state, fuel))
			}
		}
	}
	if len(ends) != 3 || ends[int64(impl.OK)] < 1000 || ends[int64(impl.ErrState)] < 500 || ends[int64(impl.ErrBudget)] < 300 {
		t.Errorf("ends: %v", ends)
	}
}

// TestRandomFlows: runs of flowcharts that no program has.
func TestRandomFlows(t *testing.T) {
	r, ends := rand.New(rand.NewSource(155)), map[any]int{}
	for i := range 2000 {
		g := []impl.Sig{sig12, sig22, sig34}[i%3]
		w, f := randomWorld(r, g, int64(1+i%12)), randomFlow(r, g, int64(1+i%20))
		a, _ := impl.FlowAutomaton(g, f)
		for state := range int64(len(w.Atoms)) {
			fuel := []int64{500, r.Int63n(9)}[i%2]
			got := runFlowOf(g, w, f, state, fuel)
			want(t, "run by the rules", got, runFlowByRules(w, f, state, fuel))
			ends[got[3]]++
			if got[3] == int64(impl.OK) {
				want(t, "the trace is a word", accepted(a, 0, got[1].(impl.Word)), true)
			}
		}
	}
	if len(ends) != 3 || ends[int64(impl.OK)] < 2000 || ends[int64(impl.ErrState)] < 1000 || ends[int64(impl.ErrBudget)] < 1000 {
		t.Errorf("ends: %v", ends)
	}
}
