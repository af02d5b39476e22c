package tests

import (
	"math/rand"
	"slices"
	"strings"
	"testing"

	"loop.example/g01101/impl"
)

// This file has the definitions of chapter 6, word for word, and makers of
// programs, worlds and flowcharts.

// mustProg reads a program that has to be valid.
func mustProg(t *testing.T, g impl.Sig, text string) impl.Prog {
	t.Helper()
	p, code := impl.ReadProg(g, text)
	if code != impl.OK {
		t.Fatalf("ReadProg of %s: code %d", short(text), code)
	}
	return p
}

// Makers of programs, valid or not.
var (
	skip    = impl.Prog{Kind: impl.PSkip}
	failing = impl.Prog{Kind: impl.PFail}
)

func do(i int64) impl.Prog { return impl.Prog{Kind: impl.PAct, Num: i} }

func assert(c impl.Expr) impl.Prog { return impl.Prog{Kind: impl.PAssert, Cond: c} }

func seq(p, q impl.Prog) impl.Prog {
	return impl.Prog{Kind: impl.PSeq, Kids: []impl.Prog{p, q}}
}

func ifThen(c impl.Expr, p, q impl.Prog) impl.Prog {
	return impl.Prog{Kind: impl.PIf, Cond: c, Kids: []impl.Prog{p, q}}
}

func while(c impl.Expr, p impl.Prog) impl.Prog {
	return impl.Prog{Kind: impl.PWhile, Cond: c, Kids: []impl.Prog{p}}
}

// loops puts p into so many loops.
func loops(times int, p impl.Prog) impl.Prog {
	for range times {
		p = while(test(0), p)
	}
	return p
}

// evenly puts so many equal programs one after the other, and as flat as it is
// possible.
func evenly(count int, p impl.Prog) impl.Prog {
	if count == 1 {
		return p
	}
	return seq(evenly(count/2, p), evenly(count-count/2, p))
}

// progByTable is the text of a program by the table.
func progByTable(p impl.Prog) string {
	switch p.Kind {
	case impl.PSkip:
		return "skip"
	case impl.PFail:
		return "fail"
	case impl.PAct:
		return "a" + digit(p.Num)
	case impl.PAssert:
		return "assert " + textOf(p.Cond)
	case impl.PSeq:
		return "{" + progByTable(p.Kids[0]) + "; " + progByTable(p.Kids[1]) + "}"
	case impl.PIf:
		return "if " + textOf(p.Cond) + " then " + progByTable(p.Kids[0]) + " else " + progByTable(p.Kids[1]) + " fi"
	}
	return "while " + textOf(p.Cond) + " do " + progByTable(p.Kids[0]) + " od"
}

// exprByProg is the expression of a program by the table, of any size.
func exprByProg(p impl.Prog) impl.Expr {
	switch p.Kind {
	case impl.PSkip:
		return one
	case impl.PAct:
		return act(p.Num)
	case impl.PAssert:
		return p.Cond
	case impl.PSeq:
		return tree(impl.EDot, exprByProg(p.Kids[0]), exprByProg(p.Kids[1]))
	case impl.PIf:
		return tree(impl.ESum, tree(impl.EDot, p.Cond, exprByProg(p.Kids[0])), tree(impl.EDot, tree(impl.ENot, p.Cond), exprByProg(p.Kids[1])))
	case impl.PWhile:
		return tree(impl.EDot, tree(impl.EStar, tree(impl.EDot, p.Cond, exprByProg(p.Kids[0]))), tree(impl.ENot, p.Cond))
	}
	return zero
}

// runByRules is a run of a program, with a list of all that is still to be run.
func runByRules(w impl.World, p impl.Prog, state, fuel int64) []any {
	rest, trace, steps := []impl.Prog{p}, impl.Word{Atoms: []int64{w.Atoms[state]}}, int64(0)
	for len(rest) > 0 {
		now := rest[0]
		rest = slices.Clone(rest[1:])
		if now.Kind == impl.PSeq {
			rest = append(slices.Clone(now.Kids), rest...)
			continue
		}
		if steps == fuel {
			return list(0, impl.Word{}, 0, impl.ErrBudget)
		}
		steps++
		holds := emptyIn(now.Cond, w.Atoms[state])
		failed := now.Kind == impl.PFail || now.Kind == impl.PAssert && !holds
		switch {
		case now.Kind == impl.PAct && w.Acts[now.Num][state] < 0:
			failed = true
		case now.Kind == impl.PAct:
			state = w.Acts[now.Num][state]
			trace.Acts, trace.Atoms = append(trace.Acts, now.Num), append(trace.Atoms, w.Atoms[state])
		case now.Kind == impl.PIf && holds:
			rest = append([]impl.Prog{now.Kids[0]}, rest...)
		case now.Kind == impl.PIf:
			rest = append([]impl.Prog{now.Kids[1]}, rest...)
		case now.Kind == impl.PWhile && holds:
			rest = append([]impl.Prog{now.Kids[0], now}, rest...)
		}
		if failed {
			return list(0, impl.Word{}, 0, impl.ErrState)
		}
	}
	return list(state, trace, steps, impl.OK)
}

// followByRules is FollowWord of valid arguments.
func followByRules(w impl.World, state int64, v impl.Word) []any {
	for i, atom := range v.Atoms {
		if w.Atoms[state] != atom {
			return list(0, impl.ErrState)
		}
		if i < len(v.Acts) {
			state = w.Acts[v.Acts[i]][state]
		}
		if state < 0 {
			return list(0, impl.ErrState)
		}
	}
	return list(state, impl.OK)
}

// spotLines are the lines of the spots of p, of which the first one gets the
// given number, and the number of the spot at which p begins, if next follows it.
func spotLines(p impl.Prog, next, first int) ([]string, int) {
	at := func(n int) string { return " " + digit(int64(n)) }
	switch p.Kind {
	case impl.PSkip:
		return nil, next
	case impl.PFail:
		return []string{"fail"}, first
	case impl.PAct:
		return []string{progByTable(p) + at(next)}, first
	case impl.PAssert:
		return []string{"fail", "test " + textOf(p.Cond) + at(next) + at(first)}, first + 1
	case impl.PSeq:
		lines, second := spotLines(p.Kids[1], next, first)
		more, begin := spotLines(p.Kids[0], second, first+len(lines))
		return append(lines, more...), begin
	case impl.PIf:
		lines, to := spotLines(p.Kids[0], next, first)
		more, other := spotLines(p.Kids[1], next, first+len(lines))
		lines = append(lines, more...)
		return append(lines, "test "+textOf(p.Cond)+at(to)+at(other)), first + len(lines)
	}
	lines, to := spotLines(p.Kids[0], first, first+1)
	return append([]string{"test " + textOf(p.Cond) + at(to) + at(next)}, lines...), first
}

// flowByRules is the text of the flowchart of p, and how many spots it has.
func flowByRules(p impl.Prog) (string, int) {
	lines, start := spotLines(p, 0, 1)
	return strings.Join(append([]string{"start " + digit(int64(start)), "halt"}, lines...), "\n") + "\n", len(lines) + 1
}

// runFlowByRules is a run of a flowchart.
func runFlowByRules(w impl.World, f impl.Flow, state, fuel int64) []any {
	trace, spot := impl.Word{Atoms: []int64{w.Atoms[state]}}, f.Start
	for steps := int64(0); ; steps++ {
		s := f.Spots[spot]
		if s.Kind == impl.FHalt {
			return list(state, trace, steps, impl.OK)
		}
		if steps == fuel {
			return list(0, impl.Word{}, 0, impl.ErrBudget)
		}
		if s.Kind == impl.FFail || s.Kind == impl.FAct && w.Acts[s.Num][state] < 0 {
			return list(0, impl.Word{}, 0, impl.ErrState)
		}
		spot = s.To
		if s.Kind == impl.FTest && !emptyIn(s.Cond, w.Atoms[state]) {
			spot = s.Else
		}
		if s.Kind == impl.FAct {
			state = w.Acts[s.Num][state]
			trace.Acts, trace.Atoms = append(trace.Acts, s.Num), append(trace.Atoms, w.Atoms[state])
		}
	}
}

// comesTo is the spot to which a spot comes with an atom, or -1.
func comesTo(f impl.Flow, spot, atom int64) int64 {
	seen := map[int64]bool{}
	for f.Spots[spot].Kind == impl.FTest {
		if seen[spot] {
			return -1
		}
		seen[spot] = true
		if emptyIn(f.Spots[spot].Cond, atom) {
			spot = f.Spots[spot].To
		} else {
			spot = f.Spots[spot].Else
		}
	}
	return spot
}

// flowAutomaton is the automaton of a flowchart.
func flowAutomaton(g impl.Sig, f impl.Flow) impl.Automaton {
	a, states := impl.Automaton{Sig: g}, []int64{f.Start}
	for s := 0; s < len(states); s++ {
		a.Accept, a.Next = append(a.Accept, nil), append(a.Next, nil)
		for atom := range int64(1) << g.Tests {
			row := slices.Repeat([]int64{-1}, int(g.Actions))
			end := comesTo(f, states[s], atom)
			if end >= 0 && f.Spots[end].Kind == impl.FAct {
				to := f.Spots[end].To
				if !slices.Contains(states, to) {
					states = append(states, to)
				}
				row[f.Spots[end].Num] = int64(slices.Index(states, to))
			}
			a.Accept[s] = append(a.Accept[s], end >= 0 && f.Spots[end].Kind == impl.FHalt)
			a.Next[s] = append(a.Next[s], row)
		}
	}
	return a
}

// deterministic tells it of an automaton, whatever its states are.
func deterministic(a impl.Automaton) bool {
	for s := range a.Next {
		for atom, row := range a.Next[s] {
			leads := len(row) - strings.Count(" "+strings.Join(numbersText(row), " "), " -1")
			if a.Accept[s][atom] && leads > 0 || leads > 1 {
				return false
			}
		}
	}
	return true
}

// ruleTexts are the rules by their numbers, in which B and C stand for
// conditions and P, Q and R for programs; the second one of TrSkip is the last.
var ruleTexts = [][2]string{
	{},
	{"while C do P od", "if C then {P; while C do P od} else skip fi"},
	{"if C then {P; while C do P od} else skip fi", "while C do P od"},
	{"if C then P else P fi", "P"},
	{"if C then P else Q fi", "if ~C then Q else P fi"},
	{"{{P; Q}; R}", "{P; {Q; R}}"},
	{"{P; {Q; R}}", "{{P; Q}; R}"},
	{"{skip; P}", "P"},
	{"{if C then P else Q fi; R}", "if C then {P; R} else {Q; R} fi"},
	{"if C then {P; R} else {Q; R} fi", "{if C then P else Q fi; R}"},
	{"while B do {P; while C do Q od} od", "if B then {P; while (B + C) do if C then Q else P fi od} else skip fi"},
	{"while C do while C do P od od", "while C do P od"},
	{"{assert C; P}", "if C then P else fail fi"},
	{"{while C do P od; if C then Q else R fi}", "{while C do P od; R}"},
	{"while C do {assert C; P} od", "while C do P od"},
	{"{P; skip}", "P"},
}

// ruleOf is the number of the rule with such an index.
func ruleOf(index int) int64 {
	if index == len(ruleTexts)-1 {
		return impl.TrSkip
	}
	return int64(index)
}

// filledIn puts texts in place of the letters of a rule.
func filledIn(text string, parts map[string]string) string {
	var out strings.Builder
	for _, letter := range text {
		if part, ok := parts[string(letter)]; ok {
			out.WriteString(part)
		} else {
			out.WriteRune(letter)
		}
	}
	return out.String()
}

// sameText compares programs by their texts.
func sameText(p, q impl.Prog) bool { return progByTable(p) == progByTable(q) }

// sameCond compares the conditions of programs by their texts.
func sameCond(p, q impl.Prog) bool { return textOf(p.Cond) == textOf(q.Cond) }

// transformed is what becomes of a node by a rule, and whether it fits.
func transformed(p impl.Prog, rule int64) (impl.Prog, bool) {
	kids := append(slices.Clone(p.Kids), impl.Prog{}, impl.Prog{})
	x, y := kids[0], kids[1]
	is := func(kind int64, first, second int64) bool {
		return p.Kind == kind && (first == 0 || x.Kind == first) && (second == 0 || y.Kind == second)
	}
	switch rule {
	case impl.TrUnroll:
		return ifThen(p.Cond, seq(x, p), skip), is(impl.PWhile, 0, 0)
	case impl.TrRoll:
		if is(impl.PIf, impl.PSeq, impl.PSkip) && x.Kids[1].Kind == impl.PWhile {
			return x.Kids[1], sameCond(x.Kids[1], p) && sameText(x.Kids[1].Kids[0], x.Kids[0])
		}
	case impl.TrSame:
		return x, is(impl.PIf, 0, 0) && sameText(x, y)
	case impl.TrSwap:
		return ifThen(tree(impl.ENot, p.Cond), y, x), is(impl.PIf, 0, 0)
	case impl.TrRight:
		if is(impl.PSeq, impl.PSeq, 0) {
			return seq(x.Kids[0], seq(x.Kids[1], y)), true
		}
	case impl.TrLeft:
		if is(impl.PSeq, 0, impl.PSeq) {
			return seq(seq(x, y.Kids[0]), y.Kids[1]), true
		}
	case impl.TrSkip:
		if is(impl.PSeq, impl.PSkip, 0) {
			return y, true
		}
		return x, is(impl.PSeq, 0, impl.PSkip)
	case impl.TrPush:
		if is(impl.PSeq, impl.PIf, 0) {
			return ifThen(x.Cond, seq(x.Kids[0], y), seq(x.Kids[1], y)), true
		}
	case impl.TrPull:
		if is(impl.PIf, impl.PSeq, impl.PSeq) {
			return seq(ifThen(p.Cond, x.Kids[0], y.Kids[0]), x.Kids[1]), sameText(x.Kids[1], y.Kids[1])
		}
	case impl.TrFuse:
		if is(impl.PWhile, impl.PSeq, 0) && x.Kids[1].Kind == impl.PWhile {
			inner := x.Kids[1]
			again := while(tree(impl.ESum, p.Cond, inner.Cond), ifThen(inner.Cond, inner.Kids[0], x.Kids[0]))
			return ifThen(p.Cond, seq(x.Kids[0], again), skip), true
		}
	case impl.TrTwice:
		return x, is(impl.PWhile, impl.PWhile, 0) && sameCond(x, p)
	case impl.TrAssert:
		return ifThen(x.Cond, y, failing), is(impl.PSeq, impl.PAssert, 0)
	case impl.TrDead:
		if is(impl.PSeq, impl.PWhile, impl.PIf) {
			return seq(x, y.Kids[1]), sameCond(x, y)
		}
	case impl.TrHead:
		if is(impl.PWhile, impl.PSeq, 0) && x.Kids[0].Kind == impl.PAssert {
			return while(p.Cond, x.Kids[1]), sameCond(x.Kids[0], p)
		}
	}
	return impl.Prog{}, false
}

// progPlace is a node of a program with its path.
type progPlace struct {
	path []int64
	part impl.Prog
}

func progPlaces(p impl.Prog, path []int64) []progPlace {
	found := []progPlace{{path, p}}
	for i, kid := range p.Kids {
		found = append(found, progPlaces(kid, append(slices.Clone(path), int64(i)))...)
	}
	return found
}

// changedProg is p with another node at a path.
func changedProg(p impl.Prog, path []int64, by impl.Prog) impl.Prog {
	if len(path) == 0 {
		return by
	}
	p.Kids = slices.Clone(p.Kids)
	p.Kids[path[0]] = changedProg(p.Kids[path[0]], path[1:], by)
	return p
}

// randomProg returns a program of at most this depth.
func randomProg(r *rand.Rand, g impl.Sig, depth int) impl.Prog {
	kind := r.Intn(12)
	if depth <= 1 {
		kind %= 5
	}
	switch {
	case kind < 3 && g.Actions > 0:
		return do(r.Int63n(g.Actions))
	case kind < 4:
		return []impl.Prog{skip, skip, failing}[r.Intn(3)]
	case kind < 5:
		return assert(randomCondition(r, g, 2))
	case kind < 8:
		return seq(randomProg(r, g, depth-1), randomProg(r, g, depth-1))
	case kind < 10:
		return ifThen(randomCondition(r, g, 2), randomProg(r, g, depth-1), randomProg(r, g, depth-1))
	}
	return while(randomCondition(r, g, 2), randomProg(r, g, depth-1))
}

// randomSite returns a program that a rule fits somewhere, and the path to it.
func randomSite(t *testing.T, r *rand.Rand, g impl.Sig, index int) (impl.Prog, []int64) {
	t.Helper()
	parts := map[string]string{}
	for _, letter := range []string{"B", "C"} {
		parts[letter] = textOf(randomCondition(r, g, 2))
	}
	for _, letter := range []string{"P", "Q", "R"} {
		parts[letter] = progByTable(randomProg(r, g, 1+r.Intn(3)))
	}
	part := mustProg(t, g, filledIn(ruleTexts[index][0], parts))
	p := randomProg(r, g, 1+r.Intn(3))
	places := progPlaces(p, nil)
	path := places[r.Intn(len(places))].path
	return changedProg(p, path, part), path
}

// randomWorld returns a world in which about one of eight steps cannot be made.
func randomWorld(r *rand.Rand, g impl.Sig, states int64) impl.World {
	w := impl.World{}
	for range states {
		w.Atoms = append(w.Atoms, r.Int63n(1<<g.Tests))
	}
	for range g.Actions {
		row := []int64{}
		for range states {
			next := r.Int63n(states)
			if r.Intn(8) == 0 {
				next = -1
			}
			row = append(row, next)
		}
		w.Acts = append(w.Acts, row)
	}
	return w
}

// lineWorld is a world of a line of states, through which a0 leads, with t0
// everywhere but in the last one; all further actions lead back to the first.
func lineWorld(g impl.Sig, states int64) impl.World {
	w := impl.World{Atoms: slices.Repeat([]int64{1}, int(states))}
	w.Atoms[states-1] = 0
	for a := range g.Actions {
		row := make([]int64, states)
		for s := range row {
			if a == 0 {
				row[s] = int64(s) + 1
			}
		}
		if a == 0 {
			row[states-1] = -1
		}
		w.Acts = append(w.Acts, row)
	}
	return w
}

// modelOfWorld is the model with the states of a world as its points.
func modelOfWorld(g impl.Sig, w impl.World) impl.Model {
	m := impl.Model{Sig: g, Points: int64(len(w.Atoms))}
	for i := range g.Tests {
		row := []bool{}
		for _, atom := range w.Atoms {
			row = append(row, atom>>i&1 == 1)
		}
		m.Tests = append(m.Tests, row)
	}
	for _, next := range w.Acts {
		m.Acts = append(m.Acts, tableBy(m.Points, func(x, y int64) bool { return next[x] == y }))
	}
	return m
}

// randomFlow returns a valid flowchart.
func randomFlow(r *rand.Rand, g impl.Sig, spots int64) impl.Flow {
	f := impl.Flow{Start: r.Int63n(spots)}
	for range spots {
		s := impl.Spot{Kind: 1 + r.Int63n(4)}
		if s.Kind == impl.FAct && g.Actions == 0 {
			s.Kind = impl.FTest
		}
		switch s.Kind {
		case impl.FAct:
			s.Num, s.To = r.Int63n(g.Actions), r.Int63n(spots)
		case impl.FTest:
			s.Cond, s.To, s.Else = randomCondition(r, g, 3), r.Int63n(spots), r.Int63n(spots)
		}
		f.Spots = append(f.Spots, s)
	}
	return f
}

// flowByTable is the text of a flowchart by the table.
func flowByTable(f impl.Flow) string {
	text := "start " + digit(f.Start) + "\n"
	for _, s := range f.Spots {
		text += map[int64]string{
			impl.FAct:  "a" + digit(s.Num) + " " + digit(s.To),
			impl.FTest: "test " + textOf(s.Cond) + " " + digit(s.To) + " " + digit(s.Else),
			impl.FHalt: "halt", impl.FFail: "fail",
		}[s.Kind] + "\n"
	}
	return text
}

// badConditions are no conditions that are valid for 2 tests and 2 actions.
func badConditions() map[string]impl.Expr {
	conditions := map[string]impl.Expr{
		"an action": act(0), "a repetition": tree(impl.EStar, test(0)), "an action in a sum": tree(impl.ESum, test(0), act(1)),
		"41 levels": nested(impl.ENot, 40, one), "no condition": {}, "a repetition in a product": tree(impl.EDot, test(0), nested(impl.EStar, 1, one)),
	}
	for name, e := range badExprs() {
		conditions[name] = e
	}
	return conditions
}

// badProgs are no programs of 2 tests and 2 actions.
func badProgs() map[string]impl.Prog {
	c, long := test(1), tree(impl.EStar, one)
	good := map[string]impl.Prog{"skip": skip, "fail": failing, "act": do(1), "assert": assert(c), "seq": seq(do(0), skip), "if": ifThen(c, skip, do(0)), "while": while(c, do(0))}
	list := map[string]impl.Prog{
		"nothing": {}, "kind 8": {Kind: 8}, "kind -1": {Kind: -1}, "a far kind": {Kind: 1 << 32}, "kind 8 with kids": {Kind: 8, Kids: []impl.Prog{skip, skip}},
		"action 2": do(2), "action -1": do(-1), "a far action": do(1 << 32), "21 levels": loops(20, skip), "61 nodes": evenly(31, skip), "61 nodes in loops": while(c, while(c, evenly(30, do(0)))),
		"21 levels in a second kid": seq(skip, loops(19, skip)), "a bad kid": seq(skip, while(c, do(2))), "a bad kid in if": ifThen(c, skip, assert(impl.Expr{})), "a bad first kid": seq(impl.Prog{}, skip),
	}
	for name, p := range good {
		for kids := range 4 {
			if kids != len(p.Kids) {
				q := p
				q.Kids = slices.Repeat([]impl.Prog{skip}, kids)
				list[name+" with "+digit(int64(kids))+" kids"] = q
			}
		}
		q := p
		if p.Kind != impl.PAct {
			q.Num = 1
			list[name+" with a number"] = q
			q.Num = -1
			list[name+" with a number below 0"] = q
		}
		bad := badConditions()
		if p.Cond.Kind == 0 {
			delete(bad, "no condition")
			bad["a condition"], bad["a number alone"], bad["kids alone"], bad["a repetition"] = c, impl.Expr{Num: 1}, impl.Expr{Kids: []impl.Expr{one}}, long
		}
		for fault, cond := range bad {
			q := p
			if p.Cond.Kind == 0 && impl.SameExpr(cond, impl.Expr{}) {
				continue // some of the bad expressions are the zero value
			}
			q.Cond = cond
			list[name+" with the condition "+fault] = q
		}
	}
	return list
}

// badWorlds are no worlds of 2 tests and 2 actions.
func badWorlds() map[string]impl.World {
	made := func() impl.World { return randomWorld(rand.New(rand.NewSource(140)), sig22, 3) }
	list := map[string]impl.World{
		"nothing": {}, "no states": {Acts: [][]int64{{}, {}}}, "13 states": randomWorld(rand.New(rand.NewSource(1)), sig22, 13), "no actions": {Atoms: []int64{0}},
		"one action": {Atoms: []int64{0}, Acts: [][]int64{{0}}}, "three actions": {Atoms: []int64{0}, Acts: [][]int64{{0}, {0}, {0}}},
		"short lists": {Atoms: []int64{0}, Acts: [][]int64{{}, {}}}, "a short list": {Atoms: []int64{0, 1}, Acts: [][]int64{{0, 0}, {0}}}, "a long list": {Atoms: []int64{0, 1}, Acts: [][]int64{{0, 0, 0}, {0, 0}}},
		"lists, but no states": {Acts: [][]int64{{0}, {0}}},
	}
	for name, atom := range map[string]int64{"atom 4": 4, "atom -1": -1, "a far atom": 1 << 32} {
		for s := range 3 {
			w := made()
			w.Atoms[s] = atom
			list[name+" in "+digit(int64(s))] = w
		}
	}
	for name, next := range map[string]int64{"state 3": 3, "state -2": -2, "a far state": 1 << 32, "a state far below": -1 << 62} {
		for i := range 6 {
			w := made()
			w.Acts[i/3][i%3] = next
			list[name+" behind "+digit(int64(i))] = w
		}
	}
	return list
}

// badFlows are no flowcharts of 2 tests and 2 actions.
func badFlows() map[string]impl.Flow {
	of := func(start int64, spots ...impl.Spot) impl.Flow { return impl.Flow{Start: start, Spots: spots} }
	halt, c := impl.Spot{Kind: impl.FHalt}, test(1)
	list := map[string]impl.Flow{
		"nothing": {}, "start 1": of(1, halt), "start -1": of(-1, halt), "a far start": of(1<<32, halt), "61 spots": {Spots: slices.Repeat([]impl.Spot{halt}, 61)},
	}
	bad := map[string]impl.Spot{"kind 0": {}, "kind 5": {Kind: 5}, "kind -1": {Kind: -1}, "a far kind": {Kind: 1 << 32}}
	for name, s := range map[string]impl.Spot{"act": {Kind: impl.FAct, Num: 1, To: 1}, "test": {Kind: impl.FTest, Cond: c, To: 1, Else: 1}, "halt": halt, "fail": {Kind: impl.FFail}} {
		set := func(field string, change func(s *impl.Spot)) {
			changed := s
			change(&changed)
			bad[name+" with "+field] = changed
		}
		for _, x := range []int64{-1, 2, 1 << 32, -1 << 63} {
			set("Num "+digit(x), func(s *impl.Spot) { s.Num = x })
			set("To "+digit(x), func(s *impl.Spot) { s.To = x })
			set("Else "+digit(x), func(s *impl.Spot) { s.Else = x })
		}
		if s.Kind != impl.FAct {
			set("Num 1", func(s *impl.Spot) { s.Num = 1 })
		}
		if s.To == 0 {
			set("To 1", func(s *impl.Spot) { s.To = 1 })
		}
		if s.Else == 0 {
			set("Else 1", func(s *impl.Spot) { s.Else = 1 })
		}
		if s.Kind != impl.FTest {
			set("a condition", func(s *impl.Spot) { s.Cond = c })
			set("a number alone", func(s *impl.Spot) { s.Cond.Num = 1 })
			set("kids alone", func(s *impl.Spot) { s.Cond.Kids = []impl.Expr{{}} })
			continue
		}
		for fault, cond := range badConditions() {
			set("the condition "+fault, func(s *impl.Spot) { s.Cond = cond })
		}
	}
	for name, s := range bad {
		list[name] = of(0, s, halt)
		list[name+", as the second spot"] = of(0, halt, s)
	}
	return list
}
