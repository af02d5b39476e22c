package tests

import (
	"fmt"
	"maps"
	"math"
	"math/rand"
	"reflect"
	"slices"
	"strings"
	"testing"

	"loop.example/g01101/impl"
)

// This file holds promise 1 for every function by calling it with reflection.

// call is a function of the program with arguments.
type call struct {
	name string
	fn   any
	args []any
}

// copied returns a deep copy. Each slice of the copy gets spare elements behind
// its end, which are filled, so that what is written there can be seen.
func copied(v reflect.Value, spare int) reflect.Value {
	out := reflect.New(v.Type()).Elem()
	switch v.Kind() {
	case reflect.Slice:
		if v.Len() == 0 && spare == 0 {
			return out
		}
		s := reflect.MakeSlice(v.Type(), v.Len(), v.Len()+spare)
		for i := range v.Len() {
			s.Index(i).Set(copied(v.Index(i), spare))
		}
		for i := range spare {
			fill(s.Slice(0, s.Cap()).Index(v.Len() + i))
		}
		return s
	case reflect.Struct:
		for i := range v.NumField() {
			out.Field(i).Set(copied(v.Field(i), spare))
		}
		return out
	}
	return v
}

// fill writes a value that nobody else writes.
func fill(v reflect.Value) {
	switch v.Kind() {
	case reflect.Int64:
		v.SetInt(-424242)
	case reflect.Bool:
		v.SetBool(true)
	case reflect.Struct:
		for i := range v.NumField() {
			fill(v.Field(i))
		}
	}
}

// seen writes down a value, with all of its capacity if whole is true. Nil and
// empty slices look the same.
func seen(out *strings.Builder, v reflect.Value, whole bool) {
	switch v.Kind() {
	case reflect.Slice:
		out.WriteString(digit(int64(v.Len())) + "[")
		if whole {
			v = v.Slice(0, v.Cap())
		}
		for i := range v.Len() {
			seen(out, v.Index(i), whole)
		}
		out.WriteString("]")
	case reflect.Struct:
		out.WriteString("{")
		for i := range v.NumField() {
			seen(out, v.Field(i), whole)
		}
		out.WriteString("}")
	case reflect.Int64:
		out.WriteString(digit(v.Int()) + ",")
	default:
		fmt.Fprintf(out, "%#v,", v.Interface())
	}
}

func look(list []reflect.Value, whole bool) string {
	var out strings.Builder
	for _, v := range list {
		seen(&out, v, whole)
	}
	return out.String()
}

// memory adds the ranges of addresses of all slices in a value.
func memory(v reflect.Value, list [][2]uintptr) [][2]uintptr {
	switch v.Kind() {
	case reflect.Slice:
		if v.Cap() > 0 && v.Type().Elem().Size() > 0 {
			start := v.Pointer()
			list = append(list, [2]uintptr{start, start + uintptr(v.Cap())*v.Type().Elem().Size()})
		}
		for i := range v.Len() {
			list = memory(v.Index(i), list)
		}
	case reflect.Struct:
		for i := range v.NumField() {
			list = memory(v.Field(i), list)
		}
	}
	return list
}

// shared reports whether two ranges have an address in common.
func shared(list, others [][2]uintptr, same bool) bool {
	for i, a := range list {
		for k, b := range others {
			if a[0] < b[1] && b[0] < a[1] && !(same && i == k) {
				return true
			}
		}
	}
	return false
}

// scribble overwrites all slices of a value, with their capacity.
func scribble(v reflect.Value) {
	switch v.Kind() {
	case reflect.Slice:
		for i := range v.Len() {
			scribble(v.Index(i))
		}
		for i := range v.Cap() {
			fill(v.Slice(0, v.Cap()).Index(i))
		}
	case reflect.Struct:
		for i := range v.NumField() {
			scribble(v.Field(i))
		}
	}
}

func values(args []any, spare int) []reflect.Value {
	list := []reflect.Value{}
	for _, a := range args {
		list = append(list, copied(reflect.ValueOf(a), spare))
	}
	return list
}

// checkPure makes a call several times, and looks at arguments and results.
func checkPure(t *testing.T, c call) {
	t.Helper()
	fn := reflect.ValueOf(c.fn)
	tight, roomy := values(c.args, 0), values(c.args, 3)
	before := look(roomy, true)
	first := fn.Call(roomy)
	told := look(first, false)
	if look(roomy, true) != before {
		t.Errorf("%s of %s modifies an argument", c.name, short(fmt.Sprint(c.args)))
	}
	taken, given := [][2]uintptr{}, [][2]uintptr{}
	for _, v := range roomy {
		taken = memory(v, taken)
	}
	for _, v := range first {
		given = memory(v, given)
	}
	if shared(given, taken, false) || shared(given, given, true) {
		t.Errorf("%s of %s gives out shared memory", c.name, short(fmt.Sprint(c.args)))
	}
	for _, v := range first {
		scribble(v)
	}
	if look(fn.Call(roomy), false) != told || look(fn.Call(tight), false) != told {
		t.Errorf("%s of %s is not the same again", c.name, short(fmt.Sprint(c.args)))
	}
	if look(roomy, true) != before {
		t.Errorf("%s of %s keeps an argument in its result", c.name, short(fmt.Sprint(c.args)))
	}
}

// exprCalls are calls of all functions with an expression.
func exprCalls(g impl.Sig, e impl.Expr, w impl.Word, by []impl.Expr) []call {
	return []call{
		{"ValidExpr", impl.ValidExpr, []any{g, e}},
		{"IsCondition", impl.IsCondition, []any{e}},
		{"SameExpr", impl.SameExpr, []any{e, e}},
		{"ExprSize", impl.ExprSize, []any{e}},
		{"ExprText", impl.ExprText, []any{g, e}},
		{"TruthAt", impl.TruthAt, []any{g, e, int64(0)}},
		{"Matches", impl.Matches, []any{g, e, w}},
		{"WordsUpTo", impl.WordsUpTo, []any{g, e, int64(2)}},
		{"CountWords", impl.CountWords, []any{g, e, int64(3)}},
		{"ReverseExpr", impl.ReverseExpr, []any{g, e}},
		{"ReplaceActions", impl.ReplaceActions, []any{g, e, by}},
		{"EmptyAt", impl.EmptyAt, []any{g, e, int64(0)}},
		{"TidyExpr", impl.TidyExpr, []any{g, e}},
		{"Derive", impl.Derive, []any{g, e, int64(1), int64(0)}},
		{"DeriveWord", impl.DeriveWord, []any{g, e, w}},
		{"StatesOf", impl.StatesOf, []any{g, e}},
		{"AutomatonOf", impl.AutomatonOf, []any{g, e}},
		{"IsDeterministic", impl.IsDeterministic, []any{g, e}},
	}
}

// wordCalls are calls of all functions with words or texts alone.
func wordCalls(g impl.Sig, v, w impl.Word, text string) []call {
	return []call{
		{"CodeName", impl.CodeName, []any{int64(len(text))}},
		{"ValidSig", impl.ValidSig, []any{g}},
		{"ValidWord", impl.ValidWord, []any{g, w}},
		{"SameWord", impl.SameWord, []any{v, w}},
		{"WordText", impl.WordText, []any{g, w}},
		{"ReadWord", impl.ReadWord, []any{g, text}},
		{"ReadExpr", impl.ReadExpr, []any{g, text}},
		{"FuseWords", impl.FuseWords, []any{g, v, w}},
		{"ReverseWord", impl.ReverseWord, []any{g, w}},
		{"ReadAutomaton", impl.ReadAutomaton, []any{text}},
	}
}

// automatonCalls are calls of all functions with automata.
func automatonCalls(a, b impl.Automaton, w impl.Word, number int64) []call {
	return []call{
		{"ValidAutomaton", impl.ValidAutomaton, []any{a}},
		{"SameAutomaton", impl.SameAutomaton, []any{a, b}},
		{"AutomatonText", impl.AutomatonText, []any{a}},
		{"RunAutomaton", impl.RunAutomaton, []any{a, w}},
		{"LeastAutomaton", impl.LeastAutomaton, []any{a}},
		{"MixAutomata", impl.MixAutomata, []any{a, b, number}},
		{"MixAutomata, the other way", impl.MixAutomata, []any{b, a, number}},
		{"AcceptedCount", impl.AcceptedCount, []any{a, number}},
		{"FirstAccepted", impl.FirstAccepted, []any{a}},
		{"ExprOf", impl.ExprOf, []any{a}},
	}
}

// decisionCalls are calls of all functions of chapter 3.
func decisionCalls(g impl.Sig, e, f impl.Expr, pairs []impl.Pair) []call {
	return []call{
		{"EqualExprs", impl.EqualExprs, []any{g, e, f}},
		{"AtMost", impl.AtMost, []any{g, e, f}},
		{"FirstDifference", impl.FirstDifference, []any{g, e, f}},
		{"FindBisim", impl.FindBisim, []any{g, e, f}},
		{"CheckBisim", impl.CheckBisim, []any{g, e, f, pairs}},
		{"MeetExprs", impl.MeetExprs, []any{g, e, f}},
		{"MinusExprs", impl.MinusExprs, []any{g, e, f}},
		{"ResidualExpr", impl.ResidualExpr, []any{g, e, f}},
		{"IsEmptyExpr", impl.IsEmptyExpr, []any{g, e}},
		{"IsConditionLike", impl.IsConditionLike, []any{g, e}},
		{"LeastExpr", impl.LeastExpr, []any{g, e}},
		{"PrefixesOf", impl.PrefixesOf, []any{g, e}},
		{"LengthsOf", impl.LengthsOf, []any{g, e}},
	}
}

// equationCalls are calls of all functions of chapter 4 without proofs.
func equationCalls(g impl.Sig, e, f impl.Expr, tests, acts []impl.Expr, path []int64) []call {
	q := impl.Equation{Left: e, Right: f}
	return []call{
		{"ValidEquation", impl.ValidEquation, []any{g, q}},
		{"EquationText", impl.EquationText, []any{g, q}},
		{"ReadEquation", impl.ReadEquation, []any{g, impl.ExprText(g, e) + " = " + impl.ExprText(g, f)}},
		{"Substitute", impl.Substitute, []any{g, e, tests, acts}},
		{"FitExpr", impl.FitExpr, []any{g, e, f}},
		{"FitExpr of the same", impl.FitExpr, []any{g, e, e}},
		{"SubtermAt", impl.SubtermAt, []any{g, e, path}},
		{"ReplaceAt", impl.ReplaceAt, []any{g, e, path, f}},
		{"StepsFrom", impl.StepsFrom, []any{g, e}},
		{"SearchProof", impl.SearchProof, []any{g, q, int64(2)}},
	}
}

// proofCalls are calls of all functions with proofs.
func proofCalls(p, q impl.Proof, k int64, e impl.Expr, s impl.ProofStep) []call {
	return []call{
		{"ValidProof", impl.ValidProof, []any{p}},
		{"SameProof", impl.SameProof, []any{p, q}},
		{"ProofText", impl.ProofText, []any{p}},
		{"ApplyStep", impl.ApplyStep, []any{p, k, e, s}},
		{"CheckProof", impl.CheckProof, []any{p}},
		{"TrimProof", impl.TrimProof, []any{p}},
		{"JoinProofs", impl.JoinProofs, []any{p, q}},
		{"JoinProofs, the other way", impl.JoinProofs, []any{q, p}},
		{"AddInstance", impl.AddInstance, []any{p, k, s.Tests, s.Acts}},
		{"InlineClaim", impl.InlineClaim, []any{p, k}},
	}
}

// modelCalls are calls of all functions with models.
func modelCalls(m, other impl.Model, e, f impl.Expr, w impl.Word, set []int64, x int64) []call {
	q := impl.Equation{Left: e, Right: f}
	return []call{
		{"ValidModel", impl.ValidModel, []any{m}},
		{"SameModel", impl.SameModel, []any{m, other}},
		{"ModelText", impl.ModelText, []any{m}},
		{"AtomOf", impl.AtomOf, []any{m, x}},
		{"RelationOf", impl.RelationOf, []any{m, e}},
		{"RunsOf", impl.RunsOf, []any{m, w}},
		{"HoldsIn", impl.HoldsIn, []any{m, q}},
		{"FirstPair", impl.FirstPair, []any{m, q}},
		{"WitnessWord", impl.WitnessWord, []any{m, e, x, m.Points - 1}},
		{"ImageOf", impl.ImageOf, []any{m, e, set}},
		{"SafeBefore", impl.SafeBefore, []any{m, e, set}},
		{"JoinModels", impl.JoinModels, []any{m, other}},
		{"JoinModels, the other way", impl.JoinModels, []any{other, m}},
		{"RenumberModel", impl.RenumberModel, []any{m, set}},
		{"RestrictModel", impl.RestrictModel, []any{m, set}},
	}
}

// againstCalls are calls of all functions that make models of a signature.
func againstCalls(g impl.Sig, e, f impl.Expr, w impl.Word, points int64) []call {
	q := impl.Equation{Left: e, Right: f}
	return []call{
		{"WordModel", impl.WordModel, []any{g, w}},
		{"CounterModel", impl.CounterModel, []any{g, q}},
		{"FirstModelAgainst", impl.FirstModelAgainst, []any{g, q, points}},
	}
}

// costCalls are calls of all functions with costs.
func costCalls(c impl.Costs, e, f impl.Expr) []call {
	return []call{
		{"ValidCosts", impl.ValidCosts, []any{c}},
		{"CostsOf", impl.CostsOf, []any{c, e}},
		{"HoldsInCosts", impl.HoldsInCosts, []any{c, impl.Equation{Left: e, Right: f}}},
		{"SupportOf", impl.SupportOf, []any{c}},
	}
}

// progCalls are calls of all functions with programs alone.
func progCalls(g impl.Sig, p, q impl.Prog, path []int64, rule int64) []call {
	return []call{
		{"ValidProg", impl.ValidProg, []any{g, p}},
		{"SameProg", impl.SameProg, []any{p, q}},
		{"ProgText", impl.ProgText, []any{g, p}},
		{"ProgExpr", impl.ProgExpr, []any{g, p}},
		{"FlowOf", impl.FlowOf, []any{g, p}},
		{"Transform", impl.Transform, []any{g, p, path, rule}},
		{"SitesOf", impl.SitesOf, []any{g, p, rule}},
	}
}

// flowCalls are calls of all functions with flowcharts alone.
func flowCalls(g impl.Sig, f impl.Flow) []call {
	return []call{
		{"ValidFlow", impl.ValidFlow, []any{g, f}},
		{"FlowText", impl.FlowText, []any{g, f}},
		{"FlowAutomaton", impl.FlowAutomaton, []any{g, f}},
	}
}

// worldCalls are calls of all functions with worlds.
func worldCalls(g impl.Sig, w impl.World, p impl.Prog, f impl.Flow, v impl.Word, state, fuel int64) []call {
	return []call{
		{"ValidWorld", impl.ValidWorld, []any{g, w}},
		{"RunProg", impl.RunProg, []any{g, w, p, state, fuel}},
		{"RunFlow", impl.RunFlow, []any{g, w, f, state, fuel}},
		{"FollowWord", impl.FollowWord, []any{g, w, state, v}},
	}
}

// conditionCalls are calls of all functions with conditions and hypotheses alone.
func conditionCalls(g impl.Sig, hypotheses []impl.Expr, b, c impl.Expr, atoms []int64) []call {
	return []call{
		{"ConditionOf", impl.ConditionOf, []any{g, atoms}},
		{"AtomsOf", impl.AtomsOf, []any{g, b}},
		{"Implies", impl.Implies, []any{g, b, c}},
		{"EqualUnder", impl.EqualUnder, []any{g, hypotheses, b, c}},
	}
}

// tripleCalls are calls of all functions with triples or programs.
func tripleCalls(g impl.Sig, premises []impl.Premise, x impl.Triple, invariants []impl.Expr) []call {
	return []call{
		{"ValidTriple", impl.ValidTriple, []any{g, x}},
		{"TripleText", impl.TripleText, []any{g, x}},
		{"HoldsTriple", impl.HoldsTriple, []any{g, x}},
		{"TripleUnder", impl.TripleUnder, []any{g, premises, x}},
		{"BreakingWord", impl.BreakingWord, []any{g, premises, x}},
		{"FindDerivation", impl.FindDerivation, []any{g, premises, x}},
		{"ObligationsOf", impl.ObligationsOf, []any{g, premises, x, invariants}},
		{"WeakestUnder", impl.WeakestUnder, []any{g, premises, x.Prog, x.Post}},
		{"StrongestUnder", impl.StrongestUnder, []any{g, premises, x.Pre, x.Prog}},
	}
}

// premiseCalls are calls of all functions with premises but those with triples.
func premiseCalls(g impl.Sig, premises []impl.Premise, d impl.Derivation, w impl.World, a, atom int64) []call {
	calls := []call{
		{"ValidPremises", impl.ValidPremises, []any{g, premises}},
		{"AllowedNext", impl.AllowedNext, []any{g, premises, a, atom}},
		{"CheckDerivation", impl.CheckDerivation, []any{g, premises, d}},
		{"ModelsPremises", impl.ModelsPremises, []any{g, w, premises}},
	}
	for _, x := range premises[:min(len(premises), 3)] {
		calls = append(calls, call{"PremiseExpr", impl.PremiseExpr, []any{g, x}})
	}
	return calls
}

// archiveCalls are calls of all functions with archives.
func archiveCalls(a, b impl.Archive, e impl.Event, s, id int64, asked []int64) []call {
	losing := []impl.Event{event(impl.EvCrash), event(impl.EvStart), event(impl.EvRevoke, 0, 98), event(impl.EvSave), event(impl.EvSend, 0, 1), event(impl.EvDeliver), event(impl.EvRevoke, 1, 98)}
	return []call{
		{"ValidArchive", impl.ValidArchive, []any{a}},
		{"SameArchive", impl.SameArchive, []any{a, b}},
		{"IsShown", impl.IsShown, []any{a, s, e.Rests, e.Proof}},
		{"ValidEvent", impl.ValidEvent, []any{a, e}},
		{"StepArchive", impl.StepArchive, []any{a, e}},
		{"RunArchive", impl.RunArchive, []any{a, []impl.Event{e, event(impl.EvSave), e}}},
		{"RunArchive over a crash", impl.RunArchive, []any{a, losing}},
		{"KnownIds", impl.KnownIds, []any{a, s}},
		{"RevokedIds", impl.RevokedIds, []any{a, s}},
		{"ClosureOf", impl.ClosureOf, []any{a, s, id}},
		{"DependentsOf", impl.DependentsOf, []any{a, s, id}},
		{"SavedAt", impl.SavedAt, []any{a, id%2 == 0, id}},
		{"TellLemma", impl.TellLemma, []any{a, id, asked}},
		{"RepairRests", impl.RepairRests, []any{a, s, id}},
		{"SpreadEvents", impl.SpreadEvents, []any{a}},
		{"ServerText", impl.ServerText, []any{a, s}},
	}
}

// invalidArchiveCalls are calls of chapter 8 with something that is not valid,
// and with other arguments out of their ranges.
func invalidArchiveCalls(t *testing.T, good impl.Archive, archives map[string]impl.Archive, notes map[string]impl.Note, events map[string]impl.Event) map[string]call {
	t.Helper()
	calls := map[string]call{}
	add := func(name string, list ...call) {
		for _, c := range list {
			calls[c.name+" of "+name] = c
		}
	}
	saving := slices.Repeat([]impl.Event{event(impl.EvSave, 9)}, 301)
	for name, a := range archives {
		add("the archive "+name, archiveCalls(a, a, put(9, unitProof(t, 0)), 9, 999, []int64{9})...)
		add("the archive "+name+", with many events", call{"RunArchive", impl.RunArchive, []any{a, saving}})
	}
	for name, n := range notes {
		if !n.Revoke && n.Entry.Id == n.Id && n.Id == 3 {
			e := put(9, n.Entry.Proof, n.Entry.Rests...)
			add("the entry "+name, archiveCalls(good, good, e, 9, 0, nil)[2:6]...)
		}
	}
	for name, e := range events {
		add("the event "+name, archiveCalls(good, good, e, 9, 0, nil)[3:6]...)
		add("the last event "+name, call{"RunArchive", impl.RunArchive, []any{good, append(slices.Clone(saving), e)}})
	}
	return calls
}

// invalidConditionCalls are calls of chapter 7 with something that is not valid,
// and with other arguments out of their ranges.
func invalidConditionCalls(g impl.Sig, exprs map[string]impl.Expr, triples map[string]impl.Triple, premises map[string][]impl.Premise, worlds map[string]impl.World) map[string]call {
	calls, x := map[string]call{}, triple(one, while(test(0), do(0)), zero)
	add := func(name string, list ...call) {
		for _, c := range list {
			calls[c.name+" of "+name] = c
		}
	}
	many := node(impl.HrTogether, zero, skip, one, make([]impl.Derivation, 401)...)
	for name, e := range exprs {
		add("the first condition "+name, conditionCalls(g, make([]impl.Expr, 5), e, act(0), nil)[1:]...)
		add("the second condition "+name, conditionCalls(g, nil, act(0), e, nil)[2:]...)
		add("the last hypothesis "+name, conditionCalls(g, []impl.Expr{one, one, one, one, e}, one, one, nil)[3])
		add("the invariant "+name, tripleCalls(g, nil, x, []impl.Expr{one, one, e})[6])
	}
	for name, y := range triples {
		add("the triple "+name, tripleCalls(g, nil, y, nil)[:7]...)
	}
	w := impl.World{Atoms: []int64{0}, Acts: slices.Repeat([][]int64{{0}}, int(g.Actions))}
	for name, list := range premises {
		add("the premises "+name, tripleCalls(g, list, x, nil)[3:]...)
		add("the premises "+name, premiseCalls(g, list, many, w, 99, 99)[:4]...)
		if len(list) == 1 {
			add("the premise "+name, premiseCalls(g, list, many, w, 99, 99)[4])
		}
	}
	for name, w := range worlds {
		add("the world "+name, premiseCalls(g, nil, many, w, 99, 99)[3])
	}
	return calls
}

// invalidCalls are calls with an expression of chapter 4 that is no expression.
func invalidCalls(g impl.Sig, e impl.Expr) []call {
	list := []call{
		{"Substitute, a test", impl.Substitute, []any{g, one, []impl.Expr{one, e}, []impl.Expr{}}},
		{"Substitute, an action", impl.Substitute, []any{g, one, []impl.Expr{}, []impl.Expr{one, e}}},
		{"FitExpr", impl.FitExpr, []any{g, act(0), e}},
		{"ReplaceAt", impl.ReplaceAt, []any{g, one, []int64{}, e}},
	}
	for _, c := range append(equationCalls(g, e, one, nil, nil, nil), equationCalls(g, one, e, nil, nil, nil)...) {
		if slices.Contains([]string{"ValidEquation", "EquationText", "SearchProof"}, c.name) {
			list = append(list, c)
		}
	}
	step := impl.ProofStep{Use: 2, Back: true, Acts: []impl.Expr{e}}
	for _, c := range []impl.Claim{{Left: e, Right: one, Rule: impl.ClSteps}, {Left: one, Right: e, Rule: impl.ClLeft}, {Left: one, Right: one, Rule: impl.ClSteps, Steps: []impl.ProofStep{step}}} {
		list = append(list, proofCalls(impl.Proof{Sig: g, Claims: []impl.Claim{c}}, impl.Proof{Sig: g}, 0, one, impl.ProofStep{Use: 20})...)
	}
	return append(list, call{"ApplyStep", impl.ApplyStep, []any{impl.Proof{Sig: g}, int64(0), e, impl.ProofStep{Use: 20}}},
		call{"ApplyStep", impl.ApplyStep, []any{impl.Proof{Sig: g}, int64(0), one, step}},
		call{"AddInstance", impl.AddInstance, []any{impl.Proof{Sig: g}, int64(0), []impl.Expr{}, []impl.Expr{e}}},
		call{"StepsFrom", impl.StepsFrom, []any{g, e}}, call{"SubtermAt", impl.SubtermAt, []any{g, e, []int64{}}})
}

// invalidModelCalls are calls of chapter 5 with an expression that is none, on
// either side of an equation.
func invalidModelCalls(g impl.Sig, e impl.Expr) []call {
	list, w := []call{}, impl.Word{Atoms: []int64{0}}
	m, c := randomModel(rand.New(rand.NewSource(121)), g, 3), randomCosts(rand.New(rand.NewSource(122)), g, 3)
	calls := append(append(modelCalls(m, m, e, one, w, []int64{5}, 9), againstCalls(g, e, one, w, 9)...), costCalls(c, e, one)...)
	calls = append(append(append(calls, modelCalls(m, m, one, e, w, nil, 0)...), againstCalls(g, one, e, w, 0)...), costCalls(c, one, e)...)
	for i, c := range calls {
		if slices.Contains([]string{"HoldsIn", "FirstPair", "CounterModel", "FirstModelAgainst", "HoldsInCosts"}, c.name) ||
			i < len(calls)/2 && slices.Contains([]string{"RelationOf", "WitnessWord", "ImageOf", "SafeBefore", "CostsOf"}, c.name) {
			list = append(list, c)
		}
	}
	return list
}

// invalidProgCalls are calls of chapter 6 with a program, a flowchart or a world
// that is none, and with other arguments out of their ranges.
func invalidProgCalls(g impl.Sig, progs map[string]impl.Prog, flows map[string]impl.Flow, worlds map[string]impl.World) map[string]call {
	calls, w, v := map[string]call{}, randomWorld(rand.New(rand.NewSource(166)), g, 3), impl.Word{Atoms: []int64{0}}
	add := func(name string, list ...call) {
		for _, c := range list {
			calls[c.name+" of "+name] = c
		}
	}
	for name, p := range progs {
		add("the program "+name, append(progCalls(g, p, p, []int64{9}, 99), worldCalls(g, w, p, impl.Flow{}, v, 99, 999)[1])...)
	}
	for name, f := range flows {
		add("the flowchart "+name, append(flowCalls(g, f), worldCalls(g, w, skip, f, v, 99, 999)[2])...)
	}
	for name, w := range worlds {
		add("the world "+name, worldCalls(g, w, skip, impl.Flow{Spots: []impl.Spot{{Kind: impl.FHalt}}}, v, 99, 999)...)
	}
	return calls
}

func TestPurity(t *testing.T) {
	r := rand.New(rand.NewSource(8))
	for range 120 {
		v, w := randomWord(r, sig12, r.Intn(4)), randomWord(r, sig12, r.Intn(4))
		w.Atoms[0] = v.Atoms[len(v.Acts)]
		e := randomExpr(r, sig12, 4)
		by := []impl.Expr{randomExpr(r, sig12, 3), randomCondition(r, sig12, 2)}
		for _, c := range exprCalls(sig12, e, w, by) {
			checkPure(t, c)
		}
		for _, text := range []string{impl.ExprText(sig12, e), impl.WordText(sig12, w), "?"} {
			for _, c := range wordCalls(sig12, v, w, text) {
				checkPure(t, c)
			}
		}
	}
	x := tree(impl.EDot, act(0), tree(impl.ESum, act(1), one))
	repeated := tree(impl.ESum, tree(impl.EDot, act(0), act(0)), tree(impl.EStar, act(0)))
	checkPure(t, call{"ReplaceActions", impl.ReplaceActions, []any{sig12, repeated, []impl.Expr{x, x}}})
	checkPure(t, call{"WordsUpTo", impl.WordsUpTo, []any{sig34, mustExpr(t, sig34, "((t0 + a0) + (a1 t2))"), int64(10)}})
	checkPure(t, call{"TidyExpr", impl.TidyExpr, []any{sig12, mustExpr(t, sig12, "(~(t0 + 0) + ((a0 a1) ~t0*))")}})
}

// TestPurityOfAutomata: nothing that is made of automata shares their rows.
func TestPurityOfAutomata(t *testing.T) {
	r := rand.New(rand.NewSource(15))
	for i := range 120 {
		g := []impl.Sig{sig12, sig11, {Tests: 2}, sig00}[i%4]
		a, b, w := randomAutomaton(r, g, 1+i%5), randomAutomaton(r, g, 1+i%3), impl.Word{Atoms: []int64{0}}
		if g.Actions > 0 {
			w = randomWord(r, g, i%5)
		}
		for _, c := range automatonCalls(a, b, w, int64(i%5)) {
			checkPure(t, c)
		}
		for _, c := range wordCalls(g, w, w, impl.AutomatonText(a)) {
			checkPure(t, c)
		}
	}
	for name, bad := range badAutomata() {
		for _, c := range automatonCalls(bad, bad, impl.Word{Atoms: []int64{0}}, 1) {
			checkPure(t, c)
		}
		checkPure(t, call{"MixAutomata with " + name, impl.MixAutomata, []any{chain(2, 0), bad, int64(1)}})
	}
	long, loop := chain(60, 0), mustAutomaton(t, "automaton 0 1\nstate +:0\n")
	for _, c := range automatonCalls(long, loop, impl.Word{Atoms: []int64{0, 0}, Acts: []int64{0}}, impl.MixUnion) {
		checkPure(t, c)
	}
}

// TestPurityOfDecisions: no pair and no expression that is told shares memory.
func TestPurityOfDecisions(t *testing.T) {
	r := rand.New(rand.NewSource(53))
	for i := range 120 {
		g := []impl.Sig{sig12, sig11, {Tests: 2}, sig00}[i%4]
		e := randomExpr(r, g, 3)
		f := equalTo(r, g, e)
		if i%3 == 0 {
			f = randomExpr(r, g, 3)
		}
		pairs, _ := impl.FindBisim(g, e, f)
		for _, c := range decisionCalls(g, e, f, append(pairs, impl.Pair{Left: e, Right: e})) {
			checkPure(t, c)
		}
		checkPure(t, call{"BisimText", impl.BisimText, []any{g, pairs}})
		checkPure(t, call{"AllWords", impl.AllWords, []any{g}})
	}
	loops, many := mustExpr(t, sig11, dead(16)), bisimOf(sig11, mustExpr(t, sig11, dead(16)), mustExpr(t, sig11, dead(25)))
	for _, f := range []impl.Expr{mustExpr(t, sig11, dead(25)), mustExpr(t, sig11, beyondStates["61 states"]), zero} {
		for _, c := range decisionCalls(sig11, loops, f, many) {
			checkPure(t, c)
		}
	}
	checkPure(t, call{"CheckBisim", impl.CheckBisim, []any{sig11, one, one, []impl.Pair{largePair(800), largePair(801)}}})
	checkPure(t, call{"BisimText", impl.BisimText, []any{sig11, []impl.Pair{largePair(800), {}}}})
}

// TestPurityOfProofs: no expression, step or proof that is told shares memory.
func TestPurityOfProofs(t *testing.T) {
	r := rand.New(rand.NewSource(69))
	for i := range 50 {
		p, q := randomProof(r, 1+i%2), randomProof(r, i%3)
		e := randomExpr(r, sig22, 1+i%4)
		s, _ := randomMove(r, p, e)
		k := int64(len(p.Claims) - 1 - i%2)
		for _, c := range proofCalls(p, q, k, e, s) {
			checkPure(t, c)
		}
		checkPure(t, call{"ApplyStep", impl.ApplyStep, []any{p, int64(len(p.Claims)), e, s}})
		left, right := p.Claims[max(0, k)].Left, p.Claims[max(0, k)].Right
		tests, acts := partsFor(r, sig22, 2)
		checkPure(t, call{"AddInstance", impl.AddInstance, []any{p, k, tests[:fullLength("t", left, right)], acts[:fullLength("a", left, right)]}})
		for _, c := range equationCalls(sig22, left, right, tests, acts, s.Path) {
			checkPure(t, c)
		}
		for _, c := range equationCalls(sig22, e, one, tests, acts, s.Path) {
			checkPure(t, c)
		}
		checkPure(t, call{"FitExpr", impl.FitExpr, []any{sig22, left, instance(left, tests, acts)}})
	}
	p, x := mustProof(t, someClaims...), mustExpr(t, sig12, "(a0 (t0 + ~t0))")
	for k := range int64(8) {
		for _, c := range proofCalls(p, p, k, x, impl.ProofStep{Use: 2, Back: true, Path: []int64{1}, Acts: []impl.Expr{x.Kids[1]}}) {
			checkPure(t, c)
		}
	}
	checkPure(t, call{"Substitute", impl.Substitute, []any{sig12, mustExpr(t, sig12, "((a0 + a0) (t0 t0))"), []impl.Expr{tree(impl.ENot, one)}, []impl.Expr{x}}})
	checkPure(t, call{"FitExpr", impl.FitExpr, []any{sig12, mustExpr(t, wholeSig, "(a2 + a0)"), tree(impl.ESum, x, x)}})
	for _, path := range [][]int64{{}, {1}, {1, 1}, {1, 1, 0}, {2}} {
		checkPure(t, call{"ReplaceAt", impl.ReplaceAt, []any{sig12, x, path, tree(impl.ESum, one, test(0))}})
		checkPure(t, call{"SubtermAt", impl.SubtermAt, []any{sig12, x, path}})
	}
	for depth := range int64(5) {
		checkPure(t, call{"SearchProof", impl.SearchProof, []any{sig12, mustEquation(t, sig12, "(1 (a0 a1)) = ((a0 a1) 1)"), depth}})
	}
	checkPure(t, call{"Axioms", impl.Axioms, nil})
	checkPure(t, call{"StandardProof", impl.StandardProof, nil})
	for _, text := range []string{standardText, strings.Join(someClaims, "\n") + "\n", "proof 0 0\n", "proof", ""} {
		checkPure(t, call{"ReadProof", impl.ReadProof, []any{text}})
	}
}

// TestPurityOfModels: no table, set or model that is told shares memory.
func TestPurityOfModels(t *testing.T) {
	r := rand.New(rand.NewSource(120))
	for i := range 150 {
		g := []impl.Sig{sig12, sig11, {Tests: 2}, sig00, sig22}[i%5]
		m, other, c := randomModel(r, g, int64(1+i%8)), randomModel(r, g, int64(1+i%3)), randomCosts(r, g, int64(1+i%4))
		e, f, w := randomExpr(r, g, 1+i%4), randomExpr(r, g, 1+i%3), impl.Word{Atoms: []int64{0}}
		if g.Actions > 0 {
			w = randomWord(r, g, i%9)
		}
		order := []int64{}
		for _, x := range r.Perm(int(m.Points)) {
			order = append(order, int64(x))
		}
		calls := append(modelCalls(m, other, e, f, w, randomSet(r, m.Points), int64(i%2)), againstCalls(g, e, f, w, int64(1+i%2))...)
		calls = append(append(calls, costCalls(c, e, f)...), call{"RenumberModel", impl.RenumberModel, []any{m, order}})
		for _, c := range append(calls, call{"ReadModel", impl.ReadModel, []any{impl.ModelText(m)}}, call{"ReadModel", impl.ReadModel, []any{impl.ModelText(m) + "?"}}) {
			checkPure(t, c)
		}
	}
	for _, bad := range badModels() {
		for _, c := range modelCalls(bad, randomModel(r, sig22, 2), one, zero, impl.Word{Atoms: []int64{0}}, []int64{0}, 0) {
			checkPure(t, c)
		}
	}
	for _, bad := range badCosts() {
		for _, c := range costCalls(bad, one, zero) {
			checkPure(t, c)
		}
	}
	for _, c := range append(againstCalls(sig01, mustExpr(t, sig01, "((1 + a0) (1 + a0))"), mustExpr(t, sig01, "(1 + a0)"), impl.Word{Atoms: make([]int64, 8), Acts: make([]int64, 7)}, 3), againstCalls(sig11, mustExpr(t, sig11, beyondStates["61 states"]), zero, impl.Word{}, 4)...) {
		checkPure(t, c)
	}
}

// TestPurityOfPrograms: no program, trace, flowchart or path that is told
// shares memory.
func TestPurityOfPrograms(t *testing.T) {
	r := rand.New(rand.NewSource(165))
	for i := range 150 {
		g := []impl.Sig{sig12, sig22, sig34}[i%3]
		p, path := randomSite(t, r, g, 1+i%(len(ruleTexts)-1))
		q, w, f := randomProg(r, g, 1+i%4), randomWorld(r, g, int64(1+i%12)), randomFlow(r, g, int64(1+i%9))
		v, text := randomWord(r, g, i%5), progByTable(p)
		if _, trace, _, code := impl.RunProg(g, w, q, 0, 20); code == impl.OK {
			v = trace
		}
		calls := append(progCalls(g, p, q, path, ruleOf(1+i%(len(ruleTexts)-1))), progCalls(g, p, p, nil, impl.TrSwap)...)
		calls = append(append(calls, flowCalls(g, f)...), worldCalls(g, w, q, f, v, 0, int64(i%25))...)
		if made, code := impl.FlowOf(g, p); code == impl.OK {
			calls = append(append(calls, flowCalls(g, made)...), worldCalls(g, w, p, made, v, int64(len(w.Atoms))-1, 500)...)
		}
		for _, c := range append(calls, call{"ReadProg", impl.ReadProg, []any{g, text}}, call{"ReadProg", impl.ReadProg, []any{g, text + " "}}) {
			checkPure(t, c)
		}
	}
	for _, p := range goodProgs(t) {
		for rule := range int64(16) {
			for _, c := range progCalls(sig22, p, p, []int64{0}, rule)[5:] {
				checkPure(t, c)
			}
		}
	}
	w, v, halt := randomWorld(r, sig22, 3), impl.Word{Atoms: []int64{0}}, impl.Flow{Spots: []impl.Spot{{Kind: impl.FHalt}}}
	calls := []call{}
	for _, bad := range badProgs() {
		calls = append(append(calls, progCalls(sig22, bad, skip, []int64{0}, 1)...), worldCalls(sig22, w, bad, halt, v, 0, 9)...)
	}
	for _, bad := range badFlows() {
		calls = append(append(calls, flowCalls(sig22, bad)...), worldCalls(sig22, w, skip, bad, v, 0, 9)...)
	}
	for _, bad := range badWorlds() {
		calls = append(calls, worldCalls(sig22, bad, skip, halt, v, 0, 9)...)
	}
	for _, c := range calls {
		checkPure(t, c)
	}
}

// TestPurityOfConditions: no condition, list of atoms, derivation or pair that
// is told shares memory.
func TestPurityOfConditions(t *testing.T) {
	r := rand.New(rand.NewSource(230))
	for i := range 200 {
		g := []impl.Sig{sig12, sig22, sig34}[i%3]
		premises, x := randomPremises(r, g, 5), randomTriple(r, g, 1+i%4)
		if i%2 == 0 {
			x = randomHolding(r, g, premises, 1+i%4)
		}
		d, _ := impl.FindDerivation(g, premises, x)
		if i%5 == 0 {
			d = changedDerivation(r, g, d)
		}
		hypotheses, w := []impl.Expr{randomExpr(r, g, 2), x.Pre}[:i%3], worldUnder(r, g, premises, int64(1+i%12))
		calls := append(tripleCalls(g, premises, x, weakestInvariants(g, premises, x.Prog, x.Post)), premiseCalls(g, premises, d, w, int64(i%5)-1, int64(i%4))...)
		calls = append(append(calls, conditionCalls(g, hypotheses, x.Pre, x.Post, atomsBy(g, x.Post))...), call{"DerivationSize", impl.DerivationSize, []any{d}})
		for _, c := range append(calls, conditionCalls(g, hypotheses, randomExpr(r, g, 3), x.Pre, []int64{1, 0})...) {
			checkPure(t, c)
		}
	}
	for _, p := range goodProgs(t) {
		for _, c := range tripleCalls(sig22, mustPremises(t, sig22, "[t0] a0 [t1]", "[t0] a0 [t1]"), triple(one, p, one), slices.Repeat([]impl.Expr{test(0)}, len(loopPaths(p)))) {
			checkPure(t, c)
		}
	}
	for _, c := range invalidConditionCalls(sig22, badConditions(), badTriples(), badPremises(), badWorlds()) {
		checkPure(t, c)
	}
}

// TestPurityOfArchives: no archive, note, event or list that is told shares
// memory, and no notes of an argument are written over.
func TestPurityOfArchives(t *testing.T) {
	r := rand.New(rand.NewSource(340))
	for i := range 120 {
		a, _ := randomArchive(r, int64(1+i%5), i%50)
		b := changedArchive(r, a)
		e, s, id := randomEvent(r, a), r.Int63n(int64(len(a.Servers))), r.Int63n(12)
		lists := subsets(len(a.Servers))
		for _, c := range append(archiveCalls(a, b, e, s, id, lists[len(lists)-1]), archiveCalls(b, a, randomPut(r, a, s, 0), s, id, lists[r.Intn(len(lists))])...) {
			checkPure(t, c)
		}
		if events, code := impl.SpreadEvents(a); code == impl.OK {
			checkPure(t, call{"RunArchive", impl.RunArchive, []any{a, events}})
		}
		checkPure(t, call{"CountVotes", impl.CountVotes, []any{randomVotes(r, true, i%3)[:5-i%2]}})
		checkPure(t, call{"NewArchive", impl.NewArchive, []any{smallSigs[i%len(smallSigs)], int64(i % 7)}})
	}
	for _, e := range goodEvents(t) {
		for _, c := range archiveCalls(someArchive(t), linked(t), e, 1, 7, []int64{0, 1}) {
			checkPure(t, c)
		}
	}
	for id := range int64(6) {
		for _, c := range archiveCalls(linked(t), linked(t), put(0, starProof(t, 2), 0, 1), 0, id, []int64{0}) {
			checkPure(t, c)
		}
	}
	for _, a := range goodArchives(t) {
		for _, c := range archiveCalls(a, a, event(impl.EvDeliver), 0, 99, []int64{0}) {
			checkPure(t, c)
		}
	}
	bad := badArchives(t)
	maps.DeleteFunc(bad, func(name string, a impl.Archive) bool { return strings.Contains(name, "proof: ") }) // they are very many
	for _, c := range invalidArchiveCalls(t, someArchive(t), bad, badNotes(t), badEvents(t)) {
		checkPure(t, c)
	}
}

// TestPurityOfInvalid: what is not valid is not modified either.
func TestPurityOfInvalid(t *testing.T) {
	g, w := impl.Sig{Tests: 2, Actions: 2}, impl.Word{Atoms: []int64{0}}
	for _, e := range badExprs() {
		for _, c := range exprCalls(g, e, w, []impl.Expr{e, e}) {
			checkPure(t, c)
		}
		checkPure(t, call{"ReplaceActions", impl.ReplaceActions, []any{g, one, []impl.Expr{act(0), e}}})
		for _, c := range append(invalidCalls(g, e), invalidModelCalls(g, e)...) {
			checkPure(t, c)
		}
		for _, c := range append(decisionCalls(g, e, one, nil), decisionCalls(g, one, e, nil)...) {
			checkPure(t, c)
		}
		checkPure(t, call{"CheckBisim", impl.CheckBisim, []any{g, one, one, []impl.Pair{{Left: one, Right: e}}}})
	}
	for _, bad := range badWords() {
		for _, c := range wordCalls(sig12, bad, bad, "0 a0") {
			checkPure(t, c)
		}
		checkPure(t, call{"FuseWords", impl.FuseWords, []any{sig12, w, bad}})
		checkPure(t, call{"Matches", impl.Matches, []any{sig12, one, bad}})
	}
}

// isZeroOf reports whether a value is zero, where an empty slice is as good as nil.
func isZeroOf(v reflect.Value) bool {
	switch v.Kind() {
	case reflect.Slice:
		return v.Len() == 0
	case reflect.Struct:
		for i := range v.NumField() {
			if !isZeroOf(v.Field(i)) {
				return false
			}
		}
		return true
	}
	return v.IsZero()
}

// TestZeroWithErrors: together with a code other than OK all results are zero,
// and for what is not valid there is no other code than ErrInvalid.
func TestZeroWithErrors(t *testing.T) {
	g, w := impl.Sig{Tests: 2, Actions: 2}, impl.Word{Atoms: []int64{0}}
	for name, e := range badExprs() {
		calls := append(exprCalls(g, e, w, []impl.Expr{one, one}), decisionCalls(g, e, one, []impl.Pair{{Left: one, Right: one}})...)
		for _, c := range append(calls, decisionCalls(g, one, e, nil)[:8]...) {
			checkInvalid(t, name, c)
		}
		for _, p := range []impl.Pair{{Left: e, Right: one}, {Left: one, Right: e}} {
			checkInvalid(t, name, call{"CheckBisim", impl.CheckBisim, []any{g, one, one, []impl.Pair{p}}})
			checkInvalid(t, name, call{"BisimText", impl.BisimText, []any{g, []impl.Pair{p}}})
		}
	}
	for name, e := range badExprs() {
		for _, c := range append(invalidCalls(g, e), invalidModelCalls(g, e)...) {
			checkInvalid(t, name, c)
		}
	}
	for name, m := range badModels() {
		for _, c := range modelCalls(m, m, one, zero, w, []int64{0}, 0) {
			checkInvalid(t, name, c)
		}
	}
	for name, c := range badCosts() {
		for _, c := range costCalls(c, one, zero) {
			checkInvalid(t, name, c)
		}
	}
	for name, p := range badProofs(t) {
		for _, c := range proofCalls(p, impl.Proof{}, 99, zero, impl.ProofStep{Use: -40}) {
			checkInvalid(t, name, c)
		}
	}
	for name, c := range invalidProgCalls(sig22, badProgs(), badFlows(), badWorlds()) {
		checkInvalid(t, name, c)
	}
	for name, c := range invalidConditionCalls(sig22, badExprs(), badTriples(), badPremises(), badWorlds()) {
		checkInvalid(t, name, c)
	}
	for name, c := range invalidArchiveCalls(t, someArchive(t), badArchives(t), badNotes(t), badEvents(t)) {
		checkInvalid(t, name, c)
	}
	for name, a := range badAutomata() {
		for _, number := range []int64{1, 99} {
			for _, c := range automatonCalls(a, a, w, number) {
				checkInvalid(t, name, c)
			}
			checkInvalid(t, name, call{"MixAutomata", impl.MixAutomata, []any{chain(1, 0), a, number}})
		}
	}
}

// checkInvalid makes a call for which there is no other answer than ErrInvalid.
func checkInvalid(t *testing.T, name string, c call) {
	t.Helper()
	if c.name == "IsCondition" || strings.HasPrefix(c.name, "Same") || c.name == "ExprSize" || c.name == "DerivationSize" { // these have an answer for all arguments
		return
	}
	arguments := []reflect.Value{}
	for _, a := range c.args {
		arguments = append(arguments, reflect.ValueOf(a))
	}
	results := reflect.ValueOf(c.fn).Call(arguments)
	last := results[len(results)-1]
	if len(results) > 1 {
		want(t, c.name+" of "+name, last.Int(), impl.ErrInvalid)
		results = results[:len(results)-1]
	}
	for _, v := range results {
		if !isZeroOf(v) {
			t.Errorf("%s of %s: %v is not zero", c.name, name, v)
		}
	}
}

// TestLargeArguments: arguments that are nested 10,000 levels deep, that have
// nearly a million elements in all, or numbers at the ends of their range.
func TestLargeArguments(t *testing.T) {
	wide := tree(impl.ESum, make([]impl.Expr, 399_999)...)
	split := one
	for range 17 {
		split = tree(impl.ESum, split, split)
	}
	large := map[string]impl.Expr{
		"stars":  nested(impl.EStar, 9_999, act(0)),
		"nots":   nested(impl.ENot, 9_999, test(0)),
		"sums":   nested(impl.ESum, 9_998, tree(impl.ESum, one, one)),
		"wide":   wide,
		"in not": tree(impl.ENot, wide),
		"shared": split,
	}
	sizes := map[string]int64{"stars": 10_000, "nots": 10_000, "sums": 10_001, "wide": 400_000, "in not": 400_001, "shared": 1<<18 - 1}
	conditions := map[string]bool{"nots": true, "sums": true, "shared": true}
	for name, e := range large {
		want(t, name, list(impl.ExprSize(e), impl.IsCondition(e), impl.SameExpr(e, e), impl.ValidExpr(sig12, e)),
			list(sizes[name], conditions[name], true, false))
		want(t, "another "+name, impl.SameExpr(e, nested(impl.EStar, 9_999, act(1))), false)
		for _, c := range exprCalls(sig12, e, impl.Word{Atoms: []int64{0}}, []impl.Expr{one, e}) {
			checkInvalid(t, name, c)
		}
		for _, c := range append(decisionCalls(sig12, e, one, nil), decisionCalls(sig12, one, e, nil)[:8]...) {
			checkInvalid(t, name, c)
		}
		checkInvalid(t, name, call{"CheckBisim", impl.CheckBisim, []any{sig12, one, one, []impl.Pair{{Left: one, Right: e}}}})
		checkInvalid(t, name, call{"BisimText", impl.BisimText, []any{sig12, []impl.Pair{{Left: e, Right: one}}}})
		for _, c := range append(invalidCalls(sig12, e), invalidModelCalls(sig12, e)...) {
			checkInvalid(t, name, c)
		}
		checkInvalid(t, name, call{"FitExpr", impl.FitExpr, []any{sig12, e, one}})
		checkInvalid(t, name, call{"Substitute", impl.Substitute, []any{sig12, e, []impl.Expr{}, []impl.Expr{}}})
	}
	largeAutomata(t)
	largeLists(t)
	largeProofs(t)
	largeModels(t)
	largePrograms(t, large)
	largeDerivations(t, large)
	largeArchives(t, large)
	numbers := make([]int64, 240_000)
	long := impl.Word{Atoms: numbers, Acts: numbers[1:]}
	_, first := impl.ReverseWord(sig12, long)
	_, second := impl.FuseWords(sig12, impl.Word{Atoms: []int64{0}}, long)
	_, third := impl.Matches(sig12, one, long)
	_, fourth := impl.ReplaceActions(sig12, one, make([]impl.Expr, 900_000))
	want(t, "long words", list(impl.ValidWord(sig12, long), impl.SameWord(long, long), impl.WordText(sig12, long),
		first, second, third, fourth), list(false, true, "", 1, 1, 1, 1))
	ones := make([]impl.Expr, 900_000)
	for i := range ones {
		ones[i].Kind = impl.EOne
	}
	_, fourth = impl.ReplaceActions(sig12, one, ones)
	want(t, "very many valid elements", fourth, impl.ErrRange)
	for _, part := range []string{"~", "(", "1", "0 a0 ", " a0 0", "*", "\xff", "state +\n"} {
		_, first := impl.ReadExpr(sig12, strings.Repeat(part, 999_999/len(part)))
		_, second := impl.ReadWord(sig12, "0"+strings.Repeat(part, 999_999/len(part)))
		_, third := impl.ReadAutomaton("automaton 0 0\n" + strings.Repeat(part, 999_980/len(part)))
		_, fourth := impl.ReadModel("model 0 1 8\nact " + strings.Repeat(part, 999_980/len(part)))
		_, fifth := impl.ReadProg(sig12, "assert "+strings.Repeat(part, 999_980/len(part)))
		want(t, "long texts", list(first, second, third, fourth, fifth), list(impl.ErrRange, impl.ErrSyntax, impl.ErrSyntax, impl.ErrSyntax, impl.ErrRange))
	}
	ends := []int64{math.MinInt64, -1, math.MaxInt64}
	for _, x := range ends {
		for _, y := range ends {
			g := impl.Sig{Tests: x, Actions: y}
			w := impl.Word{Atoms: []int64{x}, Acts: []int64{y}}
			a := impl.Automaton{Sig: g, Accept: [][]bool{{true}}, Next: [][][]int64{{{y}}}}
			b := impl.Automaton{Sig: sig01, Accept: a.Accept, Next: a.Next}
			calls := append(exprCalls(g, leaf(x, y), w, nil), automatonCalls(a, b, w, x)...)
			calls = append(calls, decisionCalls(g, leaf(x, y), leaf(y, x), []impl.Pair{{Left: leaf(x, y), Right: one}})...)
			calls = append(calls, decisionCalls(g, one, one, []impl.Pair{{Left: one, Right: one}})...)
			calls = append(calls, call{"BisimText", impl.BisimText, []any{g, []impl.Pair{{Left: one, Right: one}}}}, call{"AllWords", impl.AllWords, []any{g}})
			calls = append(calls, automatonCalls(b, chain(1, 0), w, x)...)
			calls = append(calls, equationCalls(g, leaf(x, y), leaf(y, x), []impl.Expr{leaf(y, x)}, []impl.Expr{leaf(x, y)}, []int64{x, y})...)
			calls = append(calls, equationCalls(sig12, act(0), tree(impl.EStar, test(0)), []impl.Expr{one}, []impl.Expr{one}, []int64{x, y})...)
			step := impl.ProofStep{Use: x, Path: []int64{y}, Tests: []impl.Expr{leaf(x, y)}}
			for _, p := range []impl.Proof{{Sig: g, Claims: []impl.Claim{{Left: one, Right: one, Rule: impl.ClSteps}}}, {Sig: sig12, Claims: []impl.Claim{{Left: one, Right: one, Rule: x, Ref: y}}},
				{Sig: sig12, Claims: []impl.Claim{{Left: one, Right: one, Rule: impl.ClSteps, Steps: []impl.ProofStep{step}}}}, {Sig: sig12, Claims: []impl.Claim{{Left: one, Right: one, Rule: impl.ClSteps}}}} {
				calls = append(calls, proofCalls(p, p, x, one, impl.ProofStep{Use: -1})...)
				calls = append(calls, proofCalls(p, impl.Proof{Sig: sig12}, y, leaf(x, y), step)...)
			}
			calls = append(calls, automatonCalls(chain(1, 0), chain(2, 0), w, x)...)
			for _, m := range []impl.Model{{Sig: g, Points: x}, {Sig: sig01, Points: y, Acts: [][][]bool{{{true}}}}, {Sig: sig01, Points: 1, Acts: [][][]bool{{{true}}}}} {
				c := impl.Costs{Sig: m.Sig, Points: m.Points, Acts: [][][]int64{{{x}}}}
				calls = append(append(calls, modelCalls(m, m, leaf(x, y), one, w, []int64{x, y}, x)...), costCalls(c, leaf(x, y), one)...)
				calls = append(append(calls, modelCalls(m, m, one, act(0), w, []int64{x, y}, x)...), costCalls(c, one, act(0))...)
			}
			calls = append(append(calls, againstCalls(g, one, zero, w, x)...), againstCalls(sig01, one, zero, w, y)...)
			f := impl.Flow{Start: x, Spots: []impl.Spot{{Kind: impl.FAct, Num: y, To: x, Else: y}}}
			for _, world := range []impl.World{{Atoms: []int64{x}, Acts: [][]int64{{y}}}, {Atoms: []int64{0}, Acts: [][]int64{{-1}}}} {
				calls = append(append(calls, worldCalls(sig01, world, do(0), f, w, x, y)...), worldCalls(g, world, skip, impl.Flow{Spots: []impl.Spot{{Kind: impl.FTest, Cond: one}}}, w, x, y)...)
			}
			for _, p := range []impl.Prog{{Kind: x, Num: y}, {Kind: impl.PAct, Num: x}, {Kind: impl.PAssert, Cond: leaf(x, y)}, while(one, do(0))} {
				calls = append(append(calls, progCalls(sig01, p, p, []int64{x, y}, x)...), progCalls(g, p, p, nil, y)...)
			}
			calls = append(append(calls, flowCalls(sig01, f)...), flowCalls(g, f)...)
			calls = append(append(calls, endCalls(sig01, x, y)...), endCalls(g, x, y)...)
			calls = append(calls, endArchiveCalls(t, g, x, y)...)
			for _, c := range calls {
				reflect.ValueOf(c.fn).Call(values(c.args, 0))
			}
		}
	}
}

// largeAutomata: automata that have nearly a million elements, and words that have.
func largeAutomata(t *testing.T) {
	t.Helper()
	w := impl.Word{Atoms: []int64{0}}
	many := impl.Automaton{Sig: sig01, Accept: slices.Repeat([][]bool{{true}}, 150_000), Next: slices.Repeat([][][]int64{{{0}}}, 150_000)}
	rows := impl.Automaton{Sig: sig01, Accept: [][]bool{make([]bool, 400_000)}, Next: [][][]int64{make([][]int64, 400_000)}}
	wide := impl.Automaton{Sig: sig01, Accept: [][]bool{{true}}, Next: [][][]int64{{make([]int64, 900_000)}}}
	tests := impl.Automaton{Sig: impl.Sig{Tests: 18}, Accept: [][]bool{make([]bool, 1<<18)}, Next: [][][]int64{make([][]int64, 1<<18)}}
	for i, a := range []impl.Automaton{many, rows, wide, tests} {
		want(t, "large automata", list(impl.SameAutomaton(a, a), impl.SameAutomaton(a, chain(1, 0))), list(true, false))
		for _, c := range append(automatonCalls(a, a, w, 1), automatonCalls(chain(1, 0), a, w, 1)[5:7]...) {
			results := reflect.ValueOf(c.fn).Call(values(c.args, 0))
			if len(results) > 1 {
				want(t, fmt.Sprint(c.name, " of ", i), results[len(results)-1].Int(), impl.ErrInvalid)
			}
		}
	}
	numbers := make([]int64, 240_000)
	_, code := impl.RunAutomaton(chain(1, 0), impl.Word{Atoms: numbers, Acts: numbers[1:]})
	_, second := impl.DeriveWord(sig01, act(0), impl.Word{Atoms: numbers, Acts: numbers[1:]})
	want(t, "long words", list(code, second), list(impl.ErrInvalid, impl.ErrInvalid))
}

// largeLists: as many pairs, and as large sides, as there may be.
func largeLists(t *testing.T) {
	t.Helper()
	small := slices.Repeat([]impl.Pair{{Left: one, Right: one}}, 300_000)
	_, code := impl.CheckBisim(sig00, one, one, small)
	want(t, "very many pairs", list(code, len(impl.BisimText(sig00, small))), list(impl.ErrRange, 6*len(small)))
	all := mustExpr(t, sig12, "(a0 + a1)")
	products, chains, sums := all, one, zero
	for range 260 {
		products, chains = tree(impl.EDot, products, act(0)), tree(impl.EDot, one, chains)
	}
	for i := range 55 {
		step := act(int64(i / 16 % 2))
		for bit := 1; bit < 16; bit *= 2 {
			step = tree(impl.EDot, act(int64(i/bit%2)), step)
		}
		sums = tree(impl.ESum, step, sums)
	}
	for name, e := range map[string]impl.Expr{"products": products, "chains": chains, "sums": sums} {
		pairs := []impl.Pair{}
		for i := range 400 { // all sides are different, but have nearly the same size
			last := tree(impl.EDot, act(int64(i%2)), nested(impl.ENot, i/2, test(0)))
			pairs = append(pairs, impl.Pair{Left: tree(impl.ESum, e, last), Right: tree(impl.ESum, last, e)})
		}
		_, code := impl.CheckBisim(sig12, one, one, pairs)
		want(t, "large sides, "+name, code, impl.OK)
	}
}

// largeProofs: proofs that have nearly a million elements, lists and paths that
// have, and the work for proofs that are as large as they may be.
func largeProofs(t *testing.T) {
	t.Helper()
	shown := impl.Claim{Left: one, Right: one, Rule: impl.ClSteps}
	steps := impl.Claim{Left: one, Right: one, Rule: impl.ClSteps, Steps: make([]impl.ProofStep, 300_000)}
	path := impl.Claim{Left: one, Right: one, Rule: impl.ClSteps, Steps: []impl.ProofStep{{Path: make([]int64, 900_000)}}}
	lists := impl.Claim{Left: one, Right: one, Rule: impl.ClSteps, Steps: []impl.ProofStep{{Tests: make([]impl.Expr, 400_000), Acts: make([]impl.Expr, 400_000)}}}
	for _, claims := range [][]impl.Claim{slices.Repeat([]impl.Claim{shown}, 200_000), {steps}, {path}, {lists}} {
		p := impl.Proof{Sig: sig12, Claims: claims}
		want(t, "a large proof", list(impl.SameProof(p, p), impl.SameProof(p, impl.Proof{Sig: sig12, Claims: []impl.Claim{shown}})), list(true, false))
		for _, c := range append(proofCalls(p, impl.Proof{Sig: sig12}, 0, one, impl.ProofStep{Use: 20}), proofCalls(impl.Proof{Sig: sig12}, p, 0, one, impl.ProofStep{Use: 20})[6:8]...) {
			checkInvalid(t, "a large proof", c)
		}
	}
	many := slices.Repeat([]impl.Expr{one}, 400_000)
	_, first := impl.Substitute(sig12, one, many, many)
	_, second := impl.AddInstance(impl.Proof{Sig: sig12, Claims: []impl.Claim{shown}}, 0, many, many)
	_, third := impl.ApplyStep(impl.Proof{Sig: sig12}, 0, one, impl.ProofStep{Use: 20, Tests: many})
	_, fourth := impl.SubtermAt(sig12, one, make([]int64, 900_000))
	want(t, "long lists", list(first, second, third, fourth), list(impl.OK, impl.ErrRange, impl.ErrInvalid, impl.ErrRange))
	largest := mustExpr(t, sig12, balanced(50, "(t0 + a0)", " "))
	full := impl.Claim{Left: largest, Right: largest, Rule: impl.ClSteps}
	for range 30 {
		there := impl.ProofStep{Use: 1, Path: []int64{0, 0, 0, 0, 0}, Acts: []impl.Expr{test(0), act(0)}}
		back := impl.ProofStep{Use: 1, Back: true, Path: []int64{0, 0, 0, 0, 0}, Acts: []impl.Expr{test(0), act(0)}}
		full.Steps = append(full.Steps, there, back)
	}
	p := impl.Proof{Sig: sig12, Claims: slices.Repeat([]impl.Claim{full}, 40)}
	count, code := impl.CheckProof(p)
	want(t, "the largest proof", list(count, code, len(impl.ProofText(p)) > impl.MaxProofText), list(40, impl.OK, true))
	for k := range int64(40) {
		q, code := impl.InlineClaim(p, k)
		want(t, "the largest proof, without uses", list(impl.SameProof(p, q), code), list(true, impl.OK))
	}
}

// largeModels: models and costs that have nearly a million elements, and sets
// and words that have.
func largeModels(t *testing.T) {
	t.Helper()
	w, numbers := impl.Word{Atoms: []int64{0}}, make([]int64, 450_000)
	for name, m := range map[string]impl.Model{
		"many tests":   {Sig: impl.Sig{Tests: 450_000}, Points: 1, Tests: slices.Repeat([][]bool{{true}}, 450_000)},
		"a long test":  {Sig: impl.Sig{Tests: 1}, Points: 900_000, Tests: [][]bool{make([]bool, 900_000)}},
		"too long":     {Sig: impl.Sig{Tests: 1}, Points: 1, Tests: [][]bool{make([]bool, 900_000)}},
		"many actions": {Sig: impl.Sig{Actions: 300_000}, Points: 1, Acts: slices.Repeat([][][]bool{{{true}}}, 300_000)},
		"many points":  {Sig: sig01, Points: 900, Acts: [][][]bool{slices.Repeat([][]bool{make([]bool, 900)}, 900)}},
		"a long row":   {Sig: sig01, Points: 1, Acts: [][][]bool{{make([]bool, 900_000)}}},
		"many rows":    {Sig: sig01, Points: 1, Acts: [][][]bool{slices.Repeat([][]bool{{true}}, 400_000)}},
	} {
		c := impl.Costs{Sig: m.Sig, Points: m.Points, Tests: m.Tests}
		for _, rows := range m.Acts {
			table := [][]int64{}
			for _, row := range rows {
				table = append(table, numbers[:min(len(row), len(numbers))])
			}
			c.Acts = append(c.Acts, table)
		}
		want(t, name, list(impl.SameModel(m, m), impl.SameModel(m, impl.Model{Points: 1})), list(true, false))
		for _, c := range append(modelCalls(m, impl.Model{Points: 1}, one, zero, w, []int64{0}, 0), costCalls(c, one, zero)...) {
			checkInvalid(t, name, c)
		}
	}
	m := randomModel(rand.New(rand.NewSource(123)), sig12, 8)
	increasing := make([]int64, 900_000)
	for i := range increasing {
		increasing[i] = int64(i)
	}
	for _, set := range [][]int64{numbers, increasing} {
		for _, c := range modelCalls(m, m, one, zero, impl.Word{Atoms: numbers, Acts: numbers[1:]}, set, 0) {
			results := reflect.ValueOf(c.fn).Call(values(c.args, 0))
			code := results[len(results)-1]
			if wanted := map[string]int64{"RunsOf": impl.ErrInvalid, "ImageOf": impl.ErrRange, "SafeBefore": impl.ErrRange, "RenumberModel": impl.ErrRange, "RestrictModel": impl.ErrRange}[c.name]; wanted != 0 {
				want(t, "long lists for "+c.name, code.Int(), wanted)
			}
		}
	}
}

// largePrograms: programs that are nested 10,000 levels deep or that have nearly
// a million elements, and worlds and flowcharts that have.
func largePrograms(t *testing.T, exprs map[string]impl.Expr) {
	t.Helper()
	progs, flows := map[string]impl.Prog{}, map[string]impl.Flow{}
	split := skip
	for range 17 {
		split = seq(split, split)
	}
	progs["loops"], progs["shared"], progs["wide"] = loops(9_999, skip), split, impl.Prog{Kind: impl.PSeq, Kids: make([]impl.Prog, 200_000)}
	progs["wide in a loop"] = while(one, progs["wide"])
	for name, e := range exprs {
		progs["a condition, "+name], progs["a condition that does not belong, "+name] = while(e, skip), impl.Prog{Kind: impl.PSkip, Cond: e}
		flows["a condition, "+name] = impl.Flow{Spots: []impl.Spot{{Kind: impl.FTest, Cond: e}}}
		flows["a condition that does not belong, "+name] = impl.Flow{Spots: []impl.Spot{{Kind: impl.FHalt, Cond: e}}}
	}
	for name, p := range progs {
		want(t, name, list(impl.SameProg(p, p), impl.SameProg(p, skip), impl.SameProg(loops(9_999, failing), p)), list(true, false, false))
	}
	flows["many spots"] = impl.Flow{Spots: slices.Repeat([]impl.Spot{{Kind: impl.FHalt}}, 150_000)}
	numbers := make([]int64, 900_000)
	worlds := map[string]impl.World{
		"many states": {Atoms: numbers[:300_000], Acts: [][]int64{numbers[:300_000], numbers[:300_000]}}, "many actions": {Atoms: []int64{0}, Acts: slices.Repeat([][]int64{{0}}, 400_000)},
		"a long list": {Atoms: []int64{0}, Acts: [][]int64{{0}, numbers}},
	}
	for name, c := range invalidProgCalls(sig12, progs, flows, worlds) {
		checkInvalid(t, name, c)
	}
	w := randomWorld(rand.New(rand.NewSource(167)), sig12, 12)
	_, first := impl.FollowWord(sig12, w, 0, impl.Word{Atoms: numbers, Acts: numbers[1:]})
	_, second := impl.Transform(sig12, loops(19, skip), numbers, impl.TrUnroll)
	want(t, "long words and paths", list(first, second), list(impl.ErrInvalid, impl.ErrRange))
}

// endCalls are calls of chapter 7 with two numbers wherever there is one.
func endCalls(g impl.Sig, x, y int64) []call {
	calls, w := []call{}, impl.World{Atoms: []int64{0}, Acts: [][]int64{{0}}}
	for _, c := range []impl.Expr{one, leaf(x, y)} {
		calls = append(calls, conditionCalls(g, []impl.Expr{c}, c, one, []int64{x, y})...)
		for _, p := range []impl.Prog{skip, {Kind: x, Num: y}, do(x)} {
			calls = append(calls, tripleCalls(g, []impl.Premise{premise(one, 0, c)}, triple(c, p, one), []impl.Expr{c})...)
			calls = append(calls, premiseCalls(g, []impl.Premise{premise(c, x, one)}, node(x, c, p, one, node(y, one, p, c)), w, x, y)...)
			calls = append(calls, premiseCalls(g, nil, node(x, one, p, c, node(impl.HrFail, one, failing, c)), impl.World{Atoms: []int64{x}, Acts: [][]int64{{y}}}, y, x)...)
		}
	}
	return calls
}

// largeDerivations: derivations that are nested 10,000 levels deep or that have
// nearly a million elements, and what they consist of.
func largeDerivations(t *testing.T, exprs map[string]impl.Expr) {
	t.Helper()
	triples, premises := map[string]impl.Triple{}, map[string][]impl.Premise{}
	for name, e := range exprs {
		triples[name+" in Pre"], triples[name+" in Post"], triples[name+" in Prog"] = triple(e, skip, one), triple(one, skip, e), triple(one, assert(e), one)
		premises[name+" in Pre"], premises[name+" in Post"] = []impl.Premise{premise(e, 0, one)}, []impl.Premise{premise(one, 0, e)}
	}
	triples["a deep program"], triples["a wide program"] = triple(one, loops(9_999, skip), one), triple(one, impl.Prog{Kind: impl.PSeq, Kids: make([]impl.Prog, 200_000)}, one)
	premises["very many premises"] = slices.Repeat([]impl.Premise{premise(one, 0, one)}, 200_000)
	for name, c := range invalidConditionCalls(sig12, exprs, triples, premises, nil) {
		checkInvalid(t, name, c)
	}
	for name, x := range triples {
		count, code := impl.CheckDerivation(sig12, nil, impl.Derivation{Rule: impl.HrTogether, Says: x})
		want(t, name, list(count, code), list(0, impl.ErrProof))
	}
	deep, wide := node(impl.HrSkip, one, skip, one), node(impl.HrTogether, zero, skip, one, make([]impl.Derivation, 90_000)...)
	for range 9_999 {
		deep = node(impl.HrTogether, one, skip, one, deep)
	}
	for name, d := range map[string]impl.Derivation{"deep": deep, "wide": wide} {
		count, code := impl.CheckDerivation(sig12, nil, d)
		want(t, name, list(impl.DerivationSize(d), count, code), list(map[string]int{"deep": 10_000, "wide": 90_001}[name], 0, impl.ErrRange))
	}
	many, numbers := slices.Repeat([]impl.Expr{one}, 900_000), make([]int64, 900_000)
	_, first := impl.EqualUnder(sig12, many, one, one)
	_, second := impl.ObligationsOf(sig12, nil, triple(one, skip, one), many)
	_, third := impl.ConditionOf(sig12, numbers)
	want(t, "long lists", list(first, second, third), list(impl.ErrRange, impl.ErrRange, impl.ErrRange))
	largeTriples(t)
}

// largeTriples: the work for triples that are as large as they may be, also for
// derivations that have many nodes with large programs.
func largeTriples(t *testing.T) {
	t.Helper()
	c := nodesOf(t, test(2), 180)
	inner := while(c, seq(do(0), seq(do(1), ifThen(c, do(2), assert(not(c))))))
	p := seq(seq(inner, inner), seq(inner, inner))
	for range 6 {
		p = while(c, ifThen(c, p, skip))
	}
	premises := slices.Repeat([]impl.Premise{premise(c, 0, c), premise(not(c), 1, c), premise(c, 2, not(c))}, 4)
	x := triple(test(2), p, not(test(2)))
	want(t, "a large triple", list(impl.ValidTriple(sig34, x), impl.ValidPremises(sig34, premises)), list(true, true))
	_, first := impl.BreakingWord(sig34, premises, x)
	d, second := impl.FindDerivation(sig34, premises, triple(zero, p, test(0)))
	pairs, third := impl.ObligationsOf(sig34, premises, x, slices.Repeat([]impl.Expr{test(2)}, 10))
	size := impl.DerivationSize(d)
	count, fourth := impl.CheckDerivation(sig34, premises, d)
	want(t, "a large triple", list(first, second, third, fourth, len(pairs), size == count && size > 100), list(impl.ErrNotFound, impl.OK, impl.ErrLimit, impl.OK, 0, true))
}

// endArchiveCalls are calls of chapter 8 with two numbers wherever there is one.
func endArchiveCalls(t *testing.T, g impl.Sig, x, y int64) []call {
	t.Helper()
	a, e := someArchive(t), put(x, starProof(t, 1), y)
	calls := []call{{"NewArchive", impl.NewArchive, []any{g, x}}, {"NewArchive", impl.NewArchive, []any{sig22, y}}}
	for _, b := range []impl.Archive{a, {Sig: g, Servers: []impl.Server{upServer(0)}}, archive(impl.Server{Up: true, Saved: x}), archive(upServer(1, entryNote(x, starProof(t, 1), y))), archive(upServer(1, revocation(x))), {Sig: sig22, Servers: []impl.Server{upServer(0)}, Flying: []impl.Packet{{To: x, Note: revocation(y)}}}} {
		for _, e := range []impl.Event{e, event(x, y), event(impl.EvSend, x, y, x), event(impl.EvRevoke, 0, y), event(impl.EvDeliver, x)} {
			calls = append(append(calls, archiveCalls(b, a, e, x, y, []int64{x, y})...), archiveCalls(b, a, e, 0, y, []int64{0, x})...)
		}
	}
	return calls
}

// largeArchives: archives, events and lists that have nearly a million elements,
// and the work for an archive that is as large as it may be.
func largeArchives(t *testing.T, exprs map[string]impl.Expr) {
	t.Helper()
	p, numbers := unitProof(t, 0), make([]int64, 900_000)
	archives, notes := map[string]impl.Archive{"many servers": archive(make([]impl.Server, 300_000)...), "many notes": archive(upServer(0, make([]impl.Note, 150_000)...)), "many packets": {Sig: sig22, Servers: []impl.Server{upServer(0)}, Flying: make([]impl.Packet, 150_000)}}, map[string]impl.Note{}
	notes["many rests"], notes["many claims"] = entryNote(3, p, numbers...), entryNote(3, impl.Proof{Sig: sig22, Claims: slices.Repeat(p.Claims, 60_000)})
	notes["a revocation with many rests"], notes["a revocation with many claims"] = impl.Note{Revoke: true, Entry: impl.Entry{Rests: numbers}}, impl.Note{Revoke: true, Entry: impl.Entry{Proof: notes["many claims"].Entry.Proof}}
	for name, e := range exprs {
		notes["a side, "+name] = entryNote(3, impl.Proof{Sig: sig22, Claims: []impl.Claim{{Left: one, Right: e, Rule: impl.ClSteps}}})
		notes["a step, "+name] = entryNote(3, impl.Proof{Sig: sig22, Claims: []impl.Claim{{Left: one, Right: one, Rule: impl.ClSteps, Steps: []impl.ProofStep{{Use: 20, Acts: []impl.Expr{e}}}}}})
		notes["a revocation, "+name] = impl.Note{Revoke: true, Id: 3, Entry: notes["a side, "+name].Entry}
	}
	for name, n := range notes {
		archives["a note, "+name] = archive(upServer(1, n))
		archives["a packet, "+name] = impl.Archive{Sig: sig22, Servers: []impl.Server{upServer(0)}, Flying: []impl.Packet{{Note: n}}}
	}
	for name, a := range archives {
		want(t, name, list(impl.SameArchive(a, a), impl.SameArchive(a, archive(upServer(0))), impl.SameArchive(archive(upServer(1, revocation(0))), a)), "[true false false]")
	}
	votes := put(0, p)
	votes.Votes = make([]bool, 900_000)
	events := map[string]impl.Event{"many votes": votes, "votes where none belong": {Kind: impl.EvSave, Votes: votes.Votes}, "rests where none belong": {Kind: impl.EvSave, Rests: numbers}, "claims where none belong": {Kind: impl.EvSave, Proof: notes["many claims"].Entry.Proof}}
	for name, c := range invalidArchiveCalls(t, someArchive(t), archives, notes, events) {
		checkInvalid(t, name, c)
	}
	_, first := impl.CountVotes(votes.Votes)
	_, second := impl.TellLemma(someArchive(t), 1, numbers)
	_, _, third := impl.RunArchive(someArchive(t), slices.Repeat([]impl.Event{event(impl.EvSave)}, 100_000))
	want(t, "long lists", list(first, second, third), list(impl.ErrInvalid, impl.ErrRange, impl.ErrRange))
	largestArchive(t)
}

// largestArchive: servers that know large entries, and one that knows none yet.
func largestArchive(t *testing.T) {
	t.Helper()
	entries := []impl.Note{}
	for id := range int64(20) {
		entries = append(entries, entryNote(id, largeProof(t, 11_000)))
	}
	a, b := archive(upServer(0, entries...), upServer(0), upServer(0, entries...), upServer(0, entries...), upServer(0, entries...)), archive(upServer(0, entries...), upServer(0), upServer(0), upServer(0), upServer(0))
	for _, c := range archiveCalls(a, b, put(1, largeProof(t, 20_000)), 0, 19, []int64{0, 2, 3}) {
		results := reflect.ValueOf(c.fn).Call(values(c.args, 0))
		if code := results[len(results)-1]; len(results) > 1 && c.name != "TellLemma" && c.name != "RepairRests" {
			want(t, c.name+" of large entries", code.Int(), map[bool]int{true: impl.ErrLimit}[c.name == "StepArchive"])
		}
	}
	for _, x := range []impl.Archive{a, b} {
		events, code := impl.SpreadEvents(x)
		y, made, second := impl.RunArchive(x, events)
		known, third := impl.KnownIds(y, 1)
		want(t, "large entries are spread", list(code, made == int64(len(events)), second, len(known), third), list(impl.OK, true, impl.OK, 20, impl.OK))
	}
}

// TestRandomBytes: texts of all kinds are read, or refused by ErrSyntax; what
// is read has this text.
func TestRandomBytes(t *testing.T) {
	r := rand.New(rand.NewSource(9))
	letters := "01ta~*( +)2 0a"
	read := 0
	for range 40_000 {
		text := make([]byte, r.Intn(9))
		for i := range text {
			text[i] = letters[r.Intn(len(letters))]
		}
		e, code := impl.ReadExpr(sig12, string(text))
		w, second := impl.ReadWord(sig12, string(text))
		if code == impl.OK {
			read++
			want(t, "text", impl.ExprText(sig12, e), string(text))
		} else {
			want(t, "no expression", list(e, code), list(impl.Expr{}, impl.ErrSyntax))
		}
		if second == impl.OK {
			want(t, "text of a word", impl.WordText(sig12, w), string(text))
		} else {
			want(t, "no word", list(w, second), list(impl.Word{}, impl.ErrSyntax))
		}
	}
	if read < 100 {
		t.Errorf("only %d texts are read", read)
	}
}
