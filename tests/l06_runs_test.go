package tests

import (
	"fmt"
	"math"
	"math/rand"
	"slices"
	"testing"

	"loop.example/g01101/impl"
)

// This file tests deterministic expressions, worlds and runs: promises 14 and 16.

func TestIsDeterministic(t *testing.T) {
	for text, wanted := range map[string]bool{
		"0": true, "1": true, "t0": true, "a0": true, "(a0 a1)": true, "a0*": false, "(1 + a0)": false, "(a0 + a1)": false, "(a0 + a0)": true, "(a0 + (a0 a0))": false,
		"((t0 a0) + (~t0 a1))": true, "((t0 a0) + (t0 a1))": false, "((t0 a0) + (t1 a1))": false, "((t0 a0) + ~t0)": true, "((t0 a0) + t1)": false, "((t0 a0) + (t0 a0))": true,
		"(a0 (a0 + 1))": false, "(a0 (a1 a0*))": false, "((t0 a0)* ~t0)": true, "((t0 a0)* t0)": false, "((t0 a0)* 1)": false, "(a0 ((t1 a1) + ~t1))": true,
		// What leads to nothing does not count.
		"(a0 + (a1 0))": true, "(a1 + (a0 (t0 ~t0)))": true, "(1 + (a0 (t0 ~t0)))": true, "(a0 (1 + (a1 (t0 (a0 ~t0)))))": false, "((a0 + a1) (t0 ~t0))": true, "(a0 (t0 (((a0 + a1) ~t0) t0)))": true,
		"((a0 t0) + (a0 ~t0))": true, "((a0 a0) + (a0 a1))": false, "((a0 (t0 a0)) + (a0 (~t0 a1)))": true,
	} {
		yes, code := impl.IsDeterministic(sig22, mustExpr(t, sig22, text))
		want(t, text, list(yes, code), list(wanted, impl.OK))
	}
	r, count := rand.New(rand.NewSource(145)), 0
	for range 1500 {
		e := randomExpr(r, sig22, 1+r.Intn(4))
		_, a, _ := statesOf(sig22, e)
		yes, code := impl.IsDeterministic(sig22, e)
		want(t, textOf(e), list(yes, code), list(deterministic(leastOf(a)), impl.OK))
		count += one01(yes)
	}
	if count < 300 || count > 1200 {
		t.Errorf("%d of 1500 are deterministic", count)
	}
}

func TestIsDeterministicErrors(t *testing.T) {
	for name, e := range badExprs() {
		yes, code := impl.IsDeterministic(sig22, e)
		want(t, name, list(yes, code), list(false, impl.ErrInvalid))
	}
	for _, g := range badSigs {
		yes, code := impl.IsDeterministic(g, one)
		want(t, "a bad signature", list(yes, code), list(false, impl.ErrInvalid))
	}
	for name, text := range beyondStates {
		yes, code := impl.IsDeterministic(sig11, mustExpr(t, sig11, text))
		want(t, name, list(yes, code), list(false, impl.ErrLimit))
	}
	yes, code := impl.IsDeterministic(sig11, mustExpr(t, sig11, balanced(59, "a0", " ")))
	want(t, "60 states", list(yes, code), list(true, impl.OK))
	yes, code = impl.IsDeterministic(sig01, mustExpr(t, sig01, derivedChain(15, map[int]int{6: 1, 15: 1})))
	want(t, "800 nodes", list(yes, code), list(true, impl.OK))
}

// TestProgramsAreDeterministic: the expression of each program is.
func TestProgramsAreDeterministic(t *testing.T) {
	r, count := rand.New(rand.NewSource(146)), 0
	for i := range 1500 {
		g := []impl.Sig{sig22, sig34, sig12, sig01, sig00}[i%5]
		e, code := impl.ProgExpr(g, randomProg(r, g, 1+r.Intn(5)))
		if code != impl.OK {
			continue
		}
		yes, code := impl.IsDeterministic(g, e)
		if code == impl.ErrLimit {
			continue
		}
		count++
		want(t, textOf(e), list(yes, code), list(true, impl.OK))
	}
	if count < 1300 {
		t.Errorf("only %d expressions", count)
	}
}

func TestValidWorld(t *testing.T) {
	for name, w := range badWorlds() {
		want(t, name, impl.ValidWorld(sig22, w), false)
	}
	r := rand.New(rand.NewSource(147))
	for tests := range int64(4) {
		for actions := range int64(5) {
			g := impl.Sig{Tests: tests, Actions: actions}
			for _, states := range []int64{1, 2, 11, 12} {
				want(t, "a good one", impl.ValidWorld(g, randomWorld(r, g, states)), true)
			}
			want(t, "13 states", impl.ValidWorld(g, randomWorld(r, g, 13)), false)
		}
	}
	w := impl.World{Atoms: []int64{3, 0}, Acts: [][]int64{{-1, 1}, {0, -1}}}
	want(t, "ends of ranges", list(impl.ValidWorld(sig22, w), impl.ValidWorld(sig12, w), impl.ValidWorld(impl.Sig{Tests: 2, Actions: 1}, w), impl.ValidWorld(impl.Sig{Tests: 2, Actions: 3}, w)), list(true, false, false, false))
	for _, g := range badSigs {
		want(t, "a bad signature", impl.ValidWorld(g, impl.World{Atoms: []int64{0}, Acts: [][]int64{{0}}}), false)
	}
	want(t, "without actions", list(impl.ValidWorld(sig00, impl.World{Atoms: []int64{0}}), impl.ValidWorld(sig00, impl.World{Atoms: []int64{0}, Acts: [][]int64{}})), list(true, true))
}

// runOf is RunProg with its results as a list.
func runOf(g impl.Sig, w impl.World, p impl.Prog, state, fuel int64) []any {
	return list(impl.RunProg(g, w, p, state, fuel))
}

// stepRow is a run in threeStates that needs just so many steps.
type stepRow struct {
	text  string
	state int64
	steps int64
	end   string // the last state and the trace, or a code
}

// threeStates is a world in which t0 holds in the state 0, and t1 in the state
// 1; a0 leads to the next state, and a1 just from 0 to 0.
func threeStates() impl.World {
	return impl.World{Atoms: []int64{1, 2, 0}, Acts: [][]int64{{1, 2, -1}, {0, -1, -1}}}
}

// checkSteps looks at runs with just enough fuel, with more and with less.
func checkSteps(t *testing.T, rows []stepRow, run func(row stepRow, fuel int64) []any) {
	t.Helper()
	for _, row := range rows {
		for _, fuel := range []int64{row.steps, row.steps + 1, 500} {
			got := run(row, fuel)
			if code := got[3].(int64); code != impl.OK {
				want(t, row.text, append(got[:3], digit(code)), list(0, impl.Word{}, 0, row.end))
			} else {
				want(t, row.text, list(digit(got[0].(int64))+" "+impl.WordText(sig22, got[1].(impl.Word)), got[2]), list(row.end, row.steps))
			}
		}
		for fuel := range row.steps {
			want(t, row.text+" without enough fuel", run(row, fuel), list(0, impl.Word{}, 0, impl.ErrBudget))
		}
	}
}

func TestSteps(t *testing.T) {
	checkSteps(t, []stepRow{
		{"skip", 0, 1, "0 1"}, {"skip", 2, 1, "2 0"}, {"fail", 0, 1, "4"}, {"a0", 0, 1, "1 1 a0 2"}, {"a1", 0, 1, "0 1 a1 1"}, {"a1", 1, 1, "4"}, {"a0", 2, 1, "4"},
		{"assert t0", 0, 1, "0 1"}, {"assert t0", 1, 1, "4"}, {"assert (~t0 ~t1)", 2, 1, "2 0"}, {"assert 0", 2, 1, "4"}, {"assert 1", 2, 1, "2 0"},
		{"{skip; skip}", 0, 2, "0 1"}, {"{a0; a0}", 0, 2, "2 1 a0 2 a0 0"}, {"{a0; a0}", 1, 2, "4"}, {"{fail; skip}", 0, 1, "4"}, {"{skip; fail}", 0, 2, "4"}, {"{a1; a0}", 0, 2, "1 1 a1 1 a0 2"}, {"{a0; a1}", 0, 2, "4"},
		{"{{a1; skip}; {assert t0; a1}}", 0, 4, "0 1 a1 1 a1 1"}, {"{{a0; a1}; skip}", 0, 2, "4"},
		{"if t0 then a0 else fail fi", 0, 2, "1 1 a0 2"}, {"if t0 then a0 else fail fi", 1, 2, "4"}, {"if t0 then fail else a0 fi", 1, 2, "2 2 a0 0"}, {"if 0 then fail else if 1 then skip else fail fi fi", 0, 3, "0 1"},
		{"while t0 do a0 od", 0, 3, "1 1 a0 2"}, {"while t0 do a0 od", 1, 1, "1 2"}, {"while t0 do fail od", 0, 2, "4"}, {"while (t0 + t1) do a0 od", 0, 5, "2 1 a0 2 a0 0"}, {"while 0 do fail od", 0, 1, "0 1"}, {"while ~t0 do a0 od", 1, 4, "4"},
		{"while (t0 + t1) do {skip; {a0; skip}} od", 0, 9, "2 1 a0 2 a0 0"}, {"while t0 do while t0 do a0 od od", 0, 5, "1 1 a0 2"}, {"while (t0 + t1) do while t0 do a0 od od", 2, 1, "2 0"},
		{"{while t0 do a0 od; while t1 do a0 od}", 0, 6, "2 1 a0 2 a0 0"}, {"{while t0 do a0 od; assert ~t0}", 0, 4, "1 1 a0 2"}, {"{while (t0 + t1) do a0 od; a0}", 0, 6, "4"},
	}, func(row stepRow, fuel int64) []any {
		p := mustProg(t, sig22, row.text)
		got := runOf(sig22, threeStates(), p, row.state, fuel)
		want(t, row.text+" by the rules", got, runByRules(threeStates(), p, row.state, fuel))
		return got
	})
}

// TestEndlessRuns: loops that do nothing, or nothing new, use up all fuel.
func TestEndlessRuns(t *testing.T) {
	w := impl.World{Atoms: []int64{1, 0}, Acts: [][]int64{{0, 1}, {1, 0}}}
	for _, text := range []string{"while t0 do skip od", "while 1 do a0 od", "while 1 do while ~t0 do a0 od od", "while 1 do assert t0 od", "{while 1 do a1 od; fail}", "while 1 do if t0 then a1 else a1 fi od", "{skip; while t0 do while t1 do fail od od}"} {
		for _, fuel := range []int64{0, 1, 2, 3, 499, 500} {
			want(t, text, runOf(sig22, w, mustProg(t, sig22, text), 0, fuel), list(0, impl.Word{}, 0, impl.ErrBudget))
		}
	}
	want(t, "a loop that is not entered", runOf(sig22, w, mustProg(t, sig22, "while t0 do skip od"), 1, 1), list(1, impl.Word{Atoms: []int64{0}}, 1, impl.OK))
}

// TestLongRuns: a trace may be longer than any word.
func TestLongRuns(t *testing.T) {
	w := lineWorld(sig12, 12)
	state, trace, steps, code := impl.RunProg(sig12, w, mustProg(t, sig12, "while t0 do a0 od"), 0, 500)
	want(t, "11 actions", list(state, len(trace.Acts), trace.Atoms, steps, code), list(11, 11, append(slices.Repeat([]int64{1}, 11), 0), 23, impl.OK))
	want(t, "no word", impl.ValidWord(sig12, trace), false)
	_, code = impl.FollowWord(sig12, w, 0, trace)
	want(t, "a trace that is no word", code, impl.ErrInvalid)
	again := mustProg(t, sig12, "{while t0 do a0 od; {a1; {while t0 do {skip; a0} od; {a1; {while t0 do {{skip; skip}; a0} od; {a1; while t0 do {{skip; skip}; {skip; a0}} od}}}}}}")
	state, trace, steps, code = impl.RunProg(sig12, w, again, 0, 500)
	want(t, "47 actions", list(state, len(trace.Acts), len(trace.Atoms), steps, code), list(11, 47, 48, 23+1+34+1+45+1+56, impl.OK))
	want(t, "just enough fuel", list(runOf(sig12, w, again, 0, 161)[3], runOf(sig12, w, again, 0, 160)), list(impl.OK, list(0, impl.Word{}, 0, impl.ErrBudget)))
	most := while(test(0), seq(do(0), evenly(28, skip)))
	want(t, "331 steps", list(runOf(sig12, w, most, 0, 331)[2:], runOf(sig12, w, most, 0, 330)[3]), list([]any{331, impl.OK}, impl.ErrBudget))
}

func TestRunProgErrors(t *testing.T) {
	w, refused := lineWorld(sig22, 3), func(code int) []any { return list(0, impl.Word{}, 0, code) }
	for name, p := range badProgs() {
		want(t, name, runOf(sig22, w, p, 0, 500), refused(impl.ErrInvalid))
		want(t, name+" and bad numbers", runOf(sig22, w, p, 3, 501), refused(impl.ErrInvalid))
	}
	for name, bad := range badWorlds() {
		want(t, name, runOf(sig22, bad, skip, 0, 500), refused(impl.ErrInvalid))
		want(t, name+" and bad numbers", runOf(sig22, bad, skip, -1, -1), refused(impl.ErrInvalid))
	}
	for _, g := range badSigs {
		want(t, "a bad signature", runOf(g, impl.World{Atoms: []int64{0}}, skip, 0, 0), refused(impl.ErrInvalid))
	}
	for _, x := range []int64{-1, 3, 12, math.MinInt64, math.MaxInt64} {
		want(t, "a bad state", list(runOf(sig22, w, skip, x, 0), runOf(sig22, w, failing, x, 500)), list(refused(impl.ErrRange), refused(impl.ErrRange)))
	}
	for _, x := range []int64{-1, 501, math.MinInt64, math.MaxInt64} {
		want(t, "bad fuel", list(runOf(sig22, w, skip, 0, x), runOf(sig22, w, failing, 2, x)), list(refused(impl.ErrRange), refused(impl.ErrRange)))
	}
	want(t, "ends of ranges", list(runOf(sig22, w, skip, 2, 500), runOf(sig22, w, skip, 0, 0)), list(list(2, impl.Word{Atoms: []int64{0}}, 1, impl.OK), refused(impl.ErrBudget)))
	want(t, "a failure or the end of the fuel", list(runOf(sig22, w, failing, 0, 0), runOf(sig22, w, failing, 0, 1), runOf(sig22, w, seq(failing, loops(1, skip)), 0, 1), runOf(sig22, w, seq(skip, failing), 0, 1)),
		list(refused(impl.ErrBudget), refused(impl.ErrState), refused(impl.ErrState), refused(impl.ErrBudget)))
}

func TestFollowWord(t *testing.T) {
	// t0 holds in the states 0 and 1; a0 leads round, and a1 from 0 to 2.
	w := impl.World{Atoms: []int64{1, 1, 0}, Acts: [][]int64{{1, 2, 0}, {2, -1, -1}}}
	for _, row := range []struct {
		state int64
		word  string
		last  int64 // or -1 for ErrState
	}{
		{0, "1", 0}, {1, "1", 1}, {2, "0", 2}, {0, "0", -1}, {2, "1", -1}, {0, "1 a0 1", 1}, {1, "1 a0 0", 2}, {2, "0 a0 1", 0}, {0, "1 a1 0", 2}, {1, "1 a1 0", -1}, {2, "0 a1 0", -1}, {2, "0 a1 1", -1},
		{0, "1 a0 1 a0 0", 2}, {0, "1 a0 0 a0 0", -1}, {0, "0 a0 1 a0 0", -1}, {0, "1 a0 1 a0 1", -1}, {0, "1 a0 1 a1 0", -1}, {0, "1 a1 0 a0 1 a1 0", 2}, {0, "1 a1 1 a0 1", -1}, {0, "1 a1 0 a0 0", -1},
		{0, "1 a0 1 a0 0 a0 1 a0 1 a0 0 a0 1 a0 1 a0 0 a0 1 a0 1", 1}, {0, "1 a0 1 a0 0 a0 1 a0 1 a0 0 a0 1 a0 1 a0 0 a0 1 a0 0", -1}, {0, "1 a0 1 a0 0 a0 1 a0 1 a0 1 a0 1 a0 1 a0 0 a0 1 a0 1", -1},
	} {
		v := mustWord(t, sig12, row.word)
		last, code := impl.FollowWord(sig12, w, row.state, v)
		want(t, "follow "+row.word, list(last, code), list(max(row.last, 0), []int64{impl.OK, impl.ErrState}[one01(row.last < 0)]))
	}
	r, followed := rand.New(rand.NewSource(148)), 0
	for i := range 4000 {
		g := []impl.Sig{sig12, sig22, sig04, sig34}[i%4]
		w, state := randomWorld(r, g, int64(1+i%12)), r.Int63n(int64(1+i%12))
		v := randomWord(r, g, i%4)
		if i%2 == 0 { // one of which only an atom may be another one
			_, trace, _, code := impl.RunProg(g, w, seq(do(0), seq(do(i64(r, g)), seq(do(i64(r, g)), do(i64(r, g))))), state, 4)
			if code == impl.OK {
				v = trace
				if r.Intn(3) == 0 {
					v.Atoms[r.Intn(len(v.Atoms))] ^= r.Int63n(1 << g.Tests)
				}
			}
		}
		last, code := impl.FollowWord(g, w, state, v)
		want(t, "follow", list(last, code), followByRules(w, state, v))
		followed += one01(code == impl.OK)
	}
	if followed < 800 || followed > 3500 {
		t.Errorf("%d of 4000 words are followed", followed)
	}
}

// i64 is one of the actions.
func i64(r *rand.Rand, g impl.Sig) int64 { return r.Int63n(g.Actions) }

func TestFollowWordErrors(t *testing.T) {
	w, v := lineWorld(sig12, 3), impl.Word{Atoms: []int64{1}}
	for name, bad := range badWorlds() {
		last, code := impl.FollowWord(sig22, bad, 99, v)
		want(t, name, list(last, code), list(0, impl.ErrInvalid))
	}
	for _, bad := range badWords() {
		last, code := impl.FollowWord(sig12, w, 99, bad)
		want(t, "a bad word", list(last, code), list(0, impl.ErrInvalid))
	}
	for _, g := range badSigs {
		last, code := impl.FollowWord(g, w, 0, v)
		want(t, "a bad signature", list(last, code), list(0, impl.ErrInvalid))
	}
	for _, state := range []int64{-1, 3, math.MinInt64, math.MaxInt64} {
		last, code := impl.FollowWord(sig12, w, state, impl.Word{Atoms: []int64{0, 0}, Acts: []int64{1}})
		want(t, "a bad state", list(last, code), list(0, impl.ErrRange))
	}
}

// TestRuns compares runs with the rules, and with the words of the expression:
// the trace is one, and each one that can be followed is the trace.
func TestRuns(t *testing.T) {
	r, ends := rand.New(rand.NewSource(149)), map[any]int{}
	for i := range 1500 {
		g := []impl.Sig{sig12, sig22, {Tests: 3, Actions: 2}, sig01}[i%4]
		w, p := randomWorld(r, g, int64(1+i%12)), randomProg(r, g, 1+r.Intn(5))
		e := exprByProg(p)
		_, a, ok := statesOf(g, e)
		for state := range int64(len(w.Atoms)) {
			fuel := []int64{500, r.Int63n(12), r.Int63n(501)}[i%3]
			got := runOf(g, w, p, state, fuel)
			want(t, progByTable(p), got, runByRules(w, p, state, fuel))
			ends[got[3]]++
			if trace := got[1].(impl.Word); got[3] == int64(impl.OK) && ok {
				want(t, "the trace is a word", accepted(a, 0, trace), true)
				if len(trace.Acts) <= impl.MaxWord {
					last, code := impl.FollowWord(g, w, state, trace)
					want(t, "the trace can be followed", list(last, code), list(got[0], impl.OK))
				}
			}
		}
		words, code := impl.WordsUpTo(g, e, 2)
		if code != impl.OK {
			continue
		}
		for _, v := range words {
			for state := range int64(len(w.Atoms)) {
				if last, code := impl.FollowWord(g, w, state, v); code == impl.OK {
					got := runOf(g, w, p, state, 500)
					want(t, "a word that can be followed is the trace", list(got[0], got[1], got[3]), list(last, v, impl.OK))
				}
			}
		}
	}
	if len(ends) != 3 || ends[int64(impl.OK)] < 2000 || ends[int64(impl.ErrState)] < 1000 || ends[int64(impl.ErrBudget)] < 1000 {
		t.Errorf("ends: %v", ends)
	}
}

// TestRelationOfRuns: promise 16, and nothing leads on from where a run ends by
// an error. A finite run has no more steps than nodes for each of 8 states.
func TestRelationOfRuns(t *testing.T) {
	r, counts := rand.New(rand.NewSource(150)), map[int64]int{}
	for i := range 1500 {
		g := []impl.Sig{sig12, sig22, {Tests: 3, Actions: 2}, sig01, sig00}[i%5]
		w, p := randomWorld(r, g, int64(1+i%8)), randomProg(r, g, 1+r.Intn(5))
		e, code := impl.ProgExpr(g, p)
		if code != impl.OK {
			continue
		}
		rows := relation(t, modelOfWorld(g, w), e)
		for state, row := range rows {
			last, _, _, code := impl.RunProg(g, w, p, int64(state), 500)
			wanted := make([]bool, len(row))
			wanted[last] = code == impl.OK
			want(t, fmt.Sprint("row ", state, " of ", progByTable(p)), row, wanted)
			counts[code]++
		}
	}
	if counts[impl.OK] < 1000 || counts[impl.ErrState] < 500 || counts[impl.ErrBudget] < 300 {
		t.Errorf("ends: %v", counts)
	}
}
