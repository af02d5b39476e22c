package tests

import (
	"math/rand"
	"slices"
	"strconv"
	"strings"
	"testing"

	"loop.example/g01101/impl"
)

// This file has the definitions of chapter 4, word for word, and makers of
// equations, steps and proofs.

func mustEquation(t *testing.T, g impl.Sig, text string) impl.Equation {
	t.Helper()
	q, code := impl.ReadEquation(g, text)
	if code != impl.OK {
		t.Fatalf("ReadEquation of %s: code %d", short(text), code)
	}
	return q
}

// mustProof reads a proof, of which each argument is one line or more.
func mustProof(t *testing.T, lines ...string) impl.Proof {
	t.Helper()
	p, code := impl.ReadProof(strings.Join(lines, "\n") + "\n")
	if code != impl.OK {
		t.Fatalf("ReadProof of %s: code %d", short(strings.Join(lines, "\n")), code)
	}
	return p
}

// mustStep reads a step from its line.
func mustStep(t *testing.T, g impl.Sig, line string) impl.ProofStep {
	t.Helper()
	return mustProof(t, "proof "+digit(g.Tests)+" "+digit(g.Actions), "claim 0 = 0", line).Claims[0].Steps[0]
}

// mustExprs reads expressions that stand as in the lists of a step.
func mustExprs(t *testing.T, g impl.Sig, text string) []impl.Expr {
	t.Helper()
	exprs := []impl.Expr{}
	for _, one := range strings.Split(text, "; ") {
		if one != "" {
			exprs = append(exprs, mustExpr(t, g, one))
		}
	}
	return exprs
}

func digit(n int64) string { return strconv.FormatInt(n, 10) }

// wholeSig is the signature of patterns.
var wholeSig = sig34

// listText is the text of a list as it stands in a step.
func listText(exprs []impl.Expr) string {
	texts := []string{}
	for _, e := range exprs {
		texts = append(texts, textOf(e))
	}
	return "[" + strings.Join(texts, "; ") + "]"
}

func stepText(s impl.ProofStep) string {
	text := "axiom " + digit(s.Use)
	if s.Use < 0 {
		text = "lemma " + digit(-1-s.Use)
	}
	path := strings.Join(numbersText(s.Path), ".")
	if path == "" {
		path = "-"
	}
	return text + " " + map[bool]string{true: "<", false: ">"}[s.Back] + " " + path + " " + listText(s.Tests) + " " + listText(s.Acts)
}

func stepsText(steps []impl.ProofStep) string {
	text := ""
	for _, s := range steps {
		text += stepText(s) + "\n"
	}
	return text
}

// proofByTable is the text of a proof, valid or not.
func proofByTable(p impl.Proof) string {
	text := "proof " + digit(p.Sig.Tests) + " " + digit(p.Sig.Actions) + "\n"
	for _, c := range p.Claims {
		text += "claim " + textOf(c.Left) + " = " + textOf(c.Right) + "\n"
		switch c.Rule {
		case impl.ClLeft:
			text += "left " + digit(c.Ref) + "\n"
		case impl.ClRight:
			text += "right " + digit(c.Ref) + "\n"
		}
		text += stepsText(c.Steps)
	}
	return text
}

// filledText is the text of a pattern in which texts have been replaced. As
// "~" stands only in front of conditions, no text falls apart by it.
func filledText(pattern impl.Expr, tests, acts []impl.Expr) string {
	pairs := []string{}
	for i, e := range tests {
		pairs = append(pairs, "t"+digit(int64(i)), textOf(e))
	}
	for i, e := range acts {
		pairs = append(pairs, "a"+digit(int64(i)), textOf(e))
	}
	return strings.NewReplacer(pairs...).Replace(textOf(pattern))
}

// namesIn returns the letters with these numbers that occur in the text of an
// expression, "t" or "a".
func namesIn(e impl.Expr, letter string) []string {
	names := []string{}
	for i := range int64(4) {
		if name := letter + digit(i); strings.Contains(textOf(e), name) {
			names = append(names, name)
		}
	}
	return names
}

// fullLength is the length of full lists for a pattern, or for several.
func fullLength(letter string, patterns ...impl.Expr) int {
	length := 0
	for _, e := range patterns {
		for _, name := range namesIn(e, letter) {
			length = max(length, int(name[1]-'0')+1)
		}
	}
	return length
}

// place is a node of an expression, where it is found.
type place struct {
	path  []int64
	node  impl.Expr
	inNot bool
}

// placesOf returns all nodes, a node before its kids.
func placesOf(e impl.Expr, path []int64, inNot bool) []place {
	list := []place{{path, e, inNot}}
	for i, kid := range e.Kids {
		list = append(list, placesOf(kid, append(slices.Clone(path), int64(i)), inNot || e.Kind == impl.ENot)...)
	}
	return list
}

// changedAt puts by in place of the node at a path.
func changedAt(e impl.Expr, path []int64, by impl.Expr) impl.Expr {
	if len(path) == 0 {
		return by
	}
	kids := slices.Clone(e.Kids)
	kids[path[0]] = changedAt(kids[path[0]], path[1:], by)
	return impl.Expr{Kind: e.Kind, Num: e.Num, Kids: kids}
}

// fitByTrial tries all nodes of e, which has to be small, for all tests and
// actions that occur in a pattern.
func fitByTrial(pattern, e impl.Expr) (tests, acts []impl.Expr, found bool) {
	tests = slices.Repeat([]impl.Expr{one}, fullLength("t", pattern))
	acts = slices.Repeat([]impl.Expr{one}, fullLength("a", pattern))
	var try func(names []string) bool
	try = func(names []string) bool {
		if len(names) == 0 {
			return filledText(pattern, tests, acts) == textOf(e)
		}
		for _, p := range placesOf(e, nil, false) {
			if names[0][0] == 'a' {
				acts[names[0][1]-'0'] = p.node
			} else if impl.IsCondition(p.node) {
				tests[names[0][1]-'0'] = p.node
			} else {
				continue
			}
			if try(names[1:]) {
				return true
			}
		}
		return false
	}
	if !try(append(namesIn(pattern, "t"), namesIn(pattern, "a")...)) {
		return nil, nil, false
	}
	return tests, acts, true
}

// stepsByTable returns all steps from an expression, however many.
func stepsByTable(g impl.Sig, e impl.Expr) []impl.ProofStep {
	steps := []impl.ProofStep{}
	for _, p := range placesOf(e, nil, false) {
		for use, q := range impl.Axioms() {
			for _, back := range []bool{false, true} {
				from, to := q.Left, q.Right
				if back {
					from, to = to, from
				}
				tests, acts, code := impl.FitExpr(g, from, p.node)
				if code != impl.OK || !allIn(namesIn(to, "t"), namesIn(from, "t")) || !allIn(namesIn(to, "a"), namesIn(from, "a")) {
					continue
				}
				by := instance(to, tests, acts)
				if _, code = impl.ReplaceAt(g, e, p.path, by); code == impl.OK {
					steps = append(steps, impl.ProofStep{Use: int64(use), Back: back, Path: p.path, Tests: tests, Acts: acts})
				}
			}
		}
	}
	return steps
}

func allIn(names, others []string) bool {
	return !slices.ContainsFunc(names, func(name string) bool { return !slices.Contains(others, name) })
}

// searchByTable is SearchProof with another greatest length of the list, and
// the texts of all expressions in it.
func searchByTable(g impl.Sig, q impl.Equation, depth, most int) ([]impl.ProofStep, []string, int) {
	type arrival struct {
		e     impl.Expr
		steps []impl.ProofStep
	}
	list, texts, goal := []arrival{{e: q.Left}}, []string{textOf(q.Left)}, textOf(q.Right)
	for at := 0; at < len(list) && !slices.Contains(texts, goal); at++ {
		if len(list[at].steps) >= depth {
			continue
		}
		steps := stepsByTable(g, list[at].e)
		if len(steps) > 300 {
			return nil, texts, impl.ErrLimit
		}
		for _, s := range steps {
			x := stepped(impl.Axioms(), list[at].e, s)
			if slices.Contains(texts, textOf(x)) {
				continue
			}
			if len(list) == most {
				return nil, texts, impl.ErrBudget
			}
			list = append(list, arrival{x, append(slices.Clone(list[at].steps), s)})
			texts = append(texts, textOf(x))
			if textOf(x) == goal {
				break
			}
		}
	}
	if !slices.Contains(texts, goal) {
		return nil, texts, impl.ErrNotFound
	}
	return list[len(list)-1].steps, texts, impl.OK
}

// stepped is what a step that is possible makes of an expression.
func stepped(equations []impl.Equation, e impl.Expr, s impl.ProofStep) impl.Expr {
	to := equations[s.Use].Right
	if s.Back {
		to = equations[s.Use].Left
	}
	return changedAt(e, s.Path, instance(to, s.Tests, s.Acts))
}

// equationOf returns what a claim says.
func equationOf(c impl.Claim) impl.Equation {
	return impl.Equation{Left: c.Left, Right: c.Right}
}

// stepCode is what ApplyStep has to return for valid arguments.
func stepCode(p impl.Proof, k int64, e impl.Expr, s impl.ProofStep) (impl.Expr, int) {
	q := impl.Equation{}
	switch {
	case k < 0 || k > int64(len(p.Claims)) || s.Use < 0 && -1-s.Use >= k:
		return impl.Expr{}, impl.ErrRange
	case s.Use < 0:
		q = equationOf(p.Claims[-1-s.Use])
	default:
		q = impl.Axioms()[s.Use]
	}
	places := placesOf(e, nil, false)
	at := slices.IndexFunc(places, func(x place) bool { return slices.Equal(x.path, s.Path) })
	if at < 0 || len(s.Tests) != fullLength("t", q.Left, q.Right) || len(s.Acts) != fullLength("a", q.Left, q.Right) {
		return impl.Expr{}, impl.ErrRange
	}
	from, to := instance(q.Left, s.Tests, s.Acts), instance(q.Right, s.Tests, s.Acts)
	if s.Back {
		from, to = to, from
	}
	result := changedAt(e, s.Path, to)
	switch {
	case !impl.ValidExpr(p.Sig, from) || !impl.ValidExpr(p.Sig, to):
		return impl.Expr{}, impl.ErrLimit
	case textOf(from) != textOf(places[at].node):
		return impl.Expr{}, impl.ErrNotFound
	case places[at].inNot && !impl.IsCondition(to):
		return impl.Expr{}, impl.ErrState
	case !impl.ValidExpr(p.Sig, result):
		return impl.Expr{}, impl.ErrLimit
	}
	return result, impl.OK
}

// shownByTable tells whether the claim k of a valid proof is shown.
func shownByTable(p impl.Proof, k int) bool {
	c := p.Claims[k]
	if c.Rule == impl.ClSteps {
		e, code := c.Left, impl.OK
		for _, s := range c.Steps {
			if e, code = stepCode(p, int64(k), e, s); code != impl.OK {
				return false
			}
		}
		return textOf(e) == textOf(c.Right)
	}
	if c.Ref >= int64(k) || c.Left.Kind != impl.ESum || c.Left.Kids[0].Kind != impl.EDot || textOf(c.Left.Kids[1]) != textOf(c.Right) {
		return false
	}
	star, other, r := c.Left.Kids[0].Kids[0], c.Left.Kids[0].Kids[1], c.Right
	if c.Rule == impl.ClRight {
		star, other = other, star
	}
	if star.Kind != impl.EStar {
		return false
	}
	round := tree(impl.EDot, star.Kids[0], r)
	if c.Rule == impl.ClRight {
		round = tree(impl.EDot, r, star.Kids[0])
	}
	before := tree(impl.ESum, tree(impl.ESum, other, round), r)
	return textOf(p.Claims[c.Ref].Left) == textOf(before) && textOf(p.Claims[c.Ref].Right) == textOf(r)
}

// checkByTable is CheckProof of a valid proof.
func checkByTable(p impl.Proof) (int, int) {
	for k := range p.Claims {
		if !shownByTable(p, k) {
			return k, impl.ErrProof
		}
	}
	return len(p.Claims), impl.OK
}

// inlineByTable is InlineClaim of a checked proof and a claim shown by steps.
func inlineByTable(p impl.Proof, k int) (impl.Proof, int) {
	result := impl.Proof{Sig: p.Sig}
	for _, c := range p.Claims {
		steps := []impl.ProofStep{}
		for _, s := range c.Steps {
			if s.Use != int64(-1-k) {
				steps = append(steps, s)
				continue
			}
			tests := append(slices.Clone(s.Tests), one, one, one)[:3]
			acts := append(slices.Clone(s.Acts), one, one, one, one)[:4]
			for i, x := range p.Claims[k].Steps {
				if s.Back {
					x = p.Claims[k].Steps[len(p.Claims[k].Steps)-1-i]
				}
				next := impl.ProofStep{Use: x.Use, Back: x.Back != s.Back, Path: append(slices.Clone(s.Path), x.Path...)}
				for _, e := range x.Tests {
					next.Tests = append(next.Tests, instance(e, tests, acts))
				}
				for _, e := range x.Acts {
					next.Acts = append(next.Acts, instance(e, tests, acts))
				}
				steps = append(steps, next)
			}
		}
		c.Steps = steps
		result.Claims = append(result.Claims, c)
	}
	if !impl.ValidProof(result) {
		return impl.Proof{}, impl.ErrLimit
	}
	if _, code := checkByTable(result); code != impl.OK {
		return impl.Proof{}, impl.ErrLimit
	}
	return result, impl.OK
}

// walkFrom adds a claim with some random steps to a proof, by axioms and by the
// claims that are there.
func walkFrom(r *rand.Rand, p impl.Proof, e impl.Expr, length int) impl.Proof {
	c := impl.Claim{Left: e, Rule: impl.ClSteps}
	for range length {
		s, ok := randomMove(r, p, e)
		if !ok {
			continue
		}
		c.Steps = append(c.Steps, s)
		e, _ = stepCode(p, int64(len(p.Claims)), e, s)
	}
	c.Right = e
	return impl.Proof{Sig: p.Sig, Claims: append(slices.Clone(p.Claims), c)}
}

// randomMove returns a step that can be made, often by a claim; tests and
// actions that the pattern does not tell are anything.
func randomMove(r *rand.Rand, p impl.Proof, e impl.Expr) (impl.ProofStep, bool) {
	equations := impl.Axioms()
	for range 200 {
		s, q := impl.ProofStep{Use: int64(r.Intn(24)), Back: r.Intn(2) == 0}, impl.Equation{}
		if k := len(p.Claims); k > 0 && r.Intn(3) > 0 {
			index := r.Intn(k)
			s.Use, q = int64(-1-index), equationOf(p.Claims[index])
		} else {
			q = equations[s.Use]
		}
		from := q.Left
		if s.Back {
			from = q.Right
		}
		places := placesOf(e, nil, false)
		at := places[r.Intn(len(places))]
		tests, acts, code := impl.FitExpr(p.Sig, from, at.node)
		if code != impl.OK {
			continue
		}
		s.Path = at.path
		s.Tests, s.Acts = completed(r, p.Sig, from, q, tests, acts)
		if x, code := stepCode(p, int64(len(p.Claims)), e, s); code == impl.OK && impl.ExprSize(x) < 60 {
			return s, true
		}
	}
	return impl.ProofStep{}, false
}

// completed makes lists full for both sides.
func completed(r *rand.Rand, g impl.Sig, from impl.Expr, q impl.Equation, tests, acts []impl.Expr) ([]impl.Expr, []impl.Expr) {
	for i := range fullLength("t", q.Left, q.Right) {
		if i == len(tests) {
			tests = append(tests, one)
		}
		if !slices.Contains(namesIn(from, "t"), "t"+digit(int64(i))) {
			tests[i] = randomCondition(r, g, 2)
		}
	}
	for i := range fullLength("a", q.Left, q.Right) {
		if i == len(acts) {
			acts = append(acts, one)
		}
		if !slices.Contains(namesIn(from, "a"), "a"+digit(int64(i))) {
			acts[i] = randomExpr(r, g, 2)
		}
	}
	return tests, acts
}

// sig22 is the signature of random proofs.
var sig22 = impl.Sig{Tests: 2, Actions: 2}

// randomProof returns a checked proof: some of the standard proof, and random
// claims that may use it.
func randomProof(r *rand.Rand, claims int) impl.Proof {
	p := impl.StandardProof()
	p.Sig = sig22
	p.Claims = p.Claims[:r.Intn(len(p.Claims)+1)]
	for range claims {
		p = walkFrom(r, p, randomExpr(r, p.Sig, 1+r.Intn(3)), r.Intn(5))
	}
	return p
}

// badProofs are proofs just outside of the form, or far outside.
func badProofs(t *testing.T) map[string]impl.Proof {
	t.Helper()
	bad := map[string]impl.Proof{}
	for i, g := range badSigs {
		bad["signature "+digit(int64(i))] = impl.Proof{Sig: g}
	}
	claim := func(name string, c impl.Claim) {
		bad[name] = impl.Proof{Sig: impl.Sig{Tests: 2, Actions: 2}, Claims: []impl.Claim{{Left: one, Right: one, Rule: impl.ClSteps}, c}}
	}
	step := func(name string, s impl.ProofStep) {
		claim(name, impl.Claim{Left: one, Right: one, Rule: impl.ClSteps, Steps: []impl.ProofStep{{}, s}})
	}
	for name, e := range badExprs() {
		claim("left side: "+name, impl.Claim{Left: e, Right: one, Rule: impl.ClSteps})
		claim("right side: "+name, impl.Claim{Left: one, Right: e, Rule: impl.ClLeft})
		step("a test: "+name, impl.ProofStep{Tests: []impl.Expr{test(0), e}})
		step("an action: "+name, impl.ProofStep{Acts: []impl.Expr{act(0), e}})
	}
	for _, rule := range []int64{-1 << 63, -1, 0, 4, 1<<63 - 1} {
		claim("rule "+digit(rule), impl.Claim{Left: one, Right: one, Rule: rule})
	}
	for _, ref := range []int64{-1 << 63, -1, 40, 1<<63 - 1} {
		for rule := int64(1); rule <= 3; rule++ {
			claim("rule "+digit(rule)+" with Ref "+digit(ref), impl.Claim{Left: one, Right: one, Rule: rule, Ref: ref})
		}
	}
	claim("steps with Ref", impl.Claim{Left: one, Right: one, Rule: impl.ClSteps, Ref: 1})
	claim("left with steps", impl.Claim{Left: one, Right: one, Rule: impl.ClLeft, Steps: []impl.ProofStep{{}}})
	claim("right with steps", impl.Claim{Left: one, Right: one, Rule: impl.ClRight, Steps: []impl.ProofStep{{}}})
	claim("61 steps", impl.Claim{Left: one, Right: one, Rule: impl.ClSteps, Steps: make([]impl.ProofStep, 61)})
	for _, use := range []int64{-1 << 63, -41, 24, 1<<63 - 1} {
		step("Use "+digit(use), impl.ProofStep{Use: use})
	}
	for _, i := range []int64{-1 << 63, -1, 2, 1<<63 - 1} {
		step("path with "+digit(i), impl.ProofStep{Path: []int64{0, 1, i}})
	}
	step("path of 41", impl.ProofStep{Path: make([]int64, 41)})
	step("a test that is an action", impl.ProofStep{Tests: []impl.Expr{act(0)}})
	step("a test that is a star", impl.ProofStep{Tests: []impl.Expr{one, tree(impl.EStar, one)}})
	step("4 tests", impl.ProofStep{Tests: []impl.Expr{one, one, one, one}})
	step("5 actions", impl.ProofStep{Acts: []impl.Expr{one, one, one, one, one}})
	many := impl.Proof{Sig: sig12}
	for range 41 {
		many.Claims = append(many.Claims, impl.Claim{Left: one, Right: one, Rule: impl.ClSteps})
	}
	bad["41 claims"] = many
	return bad
}
