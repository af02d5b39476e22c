package tests

import (
	"fmt"
	"math/rand"
	"slices"
	"strings"
	"testing"

	"loop.example/g01101/impl"
)

// This file has the definitions of chapter 7, word for word, and makers of
// triples, premises, hypotheses and derivations.

// triple makes a triple, valid or not.
func triple(pre impl.Expr, p impl.Prog, post impl.Expr) impl.Triple {
	return impl.Triple{Pre: pre, Prog: p, Post: post}
}

// mustTriple reads a triple, whose text has brackets round its conditions only.
func mustTriple(t *testing.T, g impl.Sig, text string) impl.Triple {
	t.Helper()
	pre, rest, _ := strings.Cut(strings.TrimPrefix(text, "["), "] ")
	prog, post, _ := strings.Cut(strings.TrimSuffix(rest, "]"), " [")
	return triple(mustExpr(t, g, pre), mustProg(t, g, prog), mustExpr(t, g, post))
}

// mustPremises reads premises, which are written as triples.
func mustPremises(t *testing.T, g impl.Sig, texts ...string) []impl.Premise {
	t.Helper()
	premises := []impl.Premise{}
	for _, text := range texts {
		x := mustTriple(t, g, text)
		premises = append(premises, premise(x.Pre, x.Prog.Num, x.Post))
	}
	return premises
}

func premise(pre impl.Expr, a int64, post impl.Expr) impl.Premise {
	return impl.Premise{Pre: pre, Act: a, Post: post}
}

// tripleByTable is the text of a triple that need not be small enough.
func tripleByTable(x impl.Triple) string {
	return "[" + textOf(x.Pre) + "] " + progByTable(x.Prog) + " [" + textOf(x.Post) + "]"
}

// Makers of conditions that may be too large.
func and(c, e impl.Expr) impl.Expr { return tree(impl.EDot, c, e) }

func not(c impl.Expr) impl.Expr { return tree(impl.ENot, c) }

func or(c, e impl.Expr) impl.Expr { return tree(impl.ESum, c, e) }

// nodesOf is a condition of so many nodes that holds just where c does, which
// is a single node; levelsOf is one of so many levels.
func nodesOf(t *testing.T, c impl.Expr, count int) impl.Expr {
	t.Helper()
	if count%2 == 0 {
		return and(nodesOf(t, c, count-3), not(zero))
	}
	return mustExpr(t, sig34, balanced((count+1)/2, textOf(c), " "))
}

func levelsOf(c impl.Expr, count int) impl.Expr {
	e := nested(impl.ENot, (count-1)/2*2, c)
	if count%2 == 0 {
		e = and(e, e)
	}
	return e
}

// atomsBy are the atoms at which a condition holds.
func atomsBy(g impl.Sig, c impl.Expr) []int64 {
	atoms := []int64{}
	for atom := range int64(1) << g.Tests {
		if emptyIn(c, atom) {
			atoms = append(atoms, atom)
		}
	}
	return atoms
}

// conditionBy is the condition of some atoms.
func conditionBy(g impl.Sig, atoms []int64) impl.Expr {
	sum := zero
	for _, atom := range atoms {
		sum = or(sum, conditionOf(g, atom))
	}
	return sum
}

// isAllowed tells whether no premise forbids a step from an atom to another one.
func isAllowed(premises []impl.Premise, x, a, y int64) bool {
	for _, p := range premises {
		if p.Act == a && emptyIn(p.Pre, x) && !emptyIn(p.Post, y) {
			return false
		}
	}
	return true
}

// allowsWord tells it for all steps of a word.
func allowsWord(premises []impl.Premise, w impl.Word) bool {
	for i, a := range w.Acts {
		if !isAllowed(premises, w.Atoms[i], a, w.Atoms[i+1]) {
			return false
		}
	}
	return true
}

// isBreaking tells whether a word, which is one of the program, breaks a triple.
func isBreaking(premises []impl.Premise, x impl.Triple, w impl.Word) bool {
	return allowsWord(premises, w) && emptyIn(x.Pre, w.Atoms[0]) && !emptyIn(x.Post, w.Atoms[len(w.Acts)])
}

// numbered are the nodes of a program, a node before its kids, and the numbers
// of their kids.
type numbered struct {
	nodes []impl.Prog
	kids  [][]int
}

// add adds the nodes of a program, and returns the number of the first one.
func (n *numbered) add(p impl.Prog) int {
	at := len(n.nodes)
	n.nodes, n.kids = append(n.nodes, p), append(n.kids, nil)
	for _, kid := range p.Kids {
		number := n.add(kid)
		n.kids[at] = append(n.kids[at], number)
	}
	return at
}

// goOn runs nodes, one after the other, by an atom: up to the next action, which
// it tells with what is still to be run then, or to the end. There is neither of
// both (-1 and false) if the run fails or goes round.
func (n *numbered) goOn(rest []int, atom int64) (int64, []int, bool) {
	seen := map[string]bool{}
	for len(rest) > 0 {
		now, kids, key := n.nodes[rest[0]], n.kids[rest[0]], fmt.Sprint(rest)
		loop := rest[:1]
		rest = rest[1:]
		holds := emptyIn(now.Cond, atom)
		switch {
		case now.Kind == impl.PAct:
			return now.Num, rest, false
		case now.Kind == impl.PFail, now.Kind == impl.PAssert && !holds, seen[key]:
			return -1, nil, false
		case now.Kind == impl.PSeq:
			rest = slices.Concat(kids, rest)
		case now.Kind == impl.PIf && holds:
			rest = slices.Concat(kids[:1], rest)
		case now.Kind == impl.PIf:
			rest = slices.Concat(kids[1:], rest)
		case now.Kind == impl.PWhile && holds:
			seen[key] = true
			rest = slices.Concat(kids, loop, rest)
		}
	}
	return -1, nil, true
}

// run is a word up to an atom, with what is still to be run.
type run struct {
	rest []int
	word impl.Word
}

// firstAllowed looks for the first allowed word of a program from some atoms to
// others, among the words of any length in their order.
func firstAllowed(g impl.Sig, premises []impl.Premise, p impl.Prog, from, to []int64) (impl.Word, bool) {
	n, runs, seen := numbered{}, []run{}, map[string]bool{}
	start := []int{n.add(p)}
	add := func(rest []int, w impl.Word) {
		key := fmt.Sprint(rest, w.Atoms[len(w.Acts)])
		if !seen[key] {
			seen[key] = true
			runs = append(runs, run{rest, w})
		}
	}
	for _, atom := range from {
		add(start, impl.Word{Atoms: []int64{atom}})
	}
	for i := 0; i < len(runs); i++ {
		w := runs[i].word
		last := w.Atoms[len(w.Acts)]
		a, rest, ended := n.goOn(runs[i].rest, last)
		if ended && slices.Contains(to, last) {
			return w, true
		}
		for atom := range int64(1) << g.Tests {
			if a >= 0 && isAllowed(premises, last, a, atom) {
				add(rest, impl.Word{Atoms: append(slices.Clone(w.Atoms), atom), Acts: append(slices.Clone(w.Acts), a)})
			}
		}
	}
	return impl.Word{}, false
}

// breakingBy is the first word that breaks a triple, and whether there is one.
func breakingBy(g impl.Sig, premises []impl.Premise, x impl.Triple) (impl.Word, bool) {
	return firstAllowed(g, premises, x.Prog, atomsBy(g, x.Pre), atomsBy(g, not(x.Post)))
}

func weakestBy(g impl.Sig, premises []impl.Premise, p impl.Prog, post impl.Expr) []int64 {
	atoms := []int64{}
	for atom := range int64(1) << g.Tests {
		if _, broken := firstAllowed(g, premises, p, []int64{atom}, atomsBy(g, not(post))); !broken {
			atoms = append(atoms, atom)
		}
	}
	return atoms
}

func strongestBy(g impl.Sig, premises []impl.Premise, pre impl.Expr, p impl.Prog) []int64 {
	atoms := []int64{}
	for atom := range int64(1) << g.Tests {
		if _, reached := firstAllowed(g, premises, p, atomsBy(g, pre), []int64{atom}); reached {
			atoms = append(atoms, atom)
		}
	}
	return atoms
}

// sumsUnder are the expressions that are compared to find what is equal under
// hypotheses.
func sumsUnder(g impl.Sig, hypotheses []impl.Expr, e, f impl.Expr) (impl.Expr, impl.Expr) {
	acts, sum := zero, zero
	for a := range g.Actions {
		acts = tree(impl.ESum, acts, act(a))
	}
	for _, h := range hypotheses {
		sum = tree(impl.ESum, sum, h)
	}
	all := tidied(tree(impl.EStar, acts))
	excluded := tree(impl.EDot, all, tree(impl.EDot, sum, all))
	return tree(impl.ESum, e, excluded), tree(impl.ESum, f, excluded)
}

// equalUnderBy is EqualUnder of valid arguments.
func equalUnderBy(g impl.Sig, hypotheses []impl.Expr, e, f impl.Expr) []any {
	x, y := sumsUnder(g, hypotheses, e, f)
	if !impl.ValidExpr(g, x) || !impl.ValidExpr(g, y) {
		return list(false, impl.ErrLimit)
	}
	_, a, first := statesOf(g, x)
	_, b, second := statesOf(g, y)
	if !first || !second {
		return list(false, impl.ErrLimit)
	}
	return list(acceptSame(a, b, 0, 0), impl.OK)
}

// hasPart tells whether a part of a word is a word of a hypothesis.
func hasPart(hypotheses []impl.Expr, w impl.Word) bool {
	for from := range len(w.Atoms) {
		for to := from; to < len(w.Atoms); to++ {
			if slices.ContainsFunc(hypotheses, func(h impl.Expr) bool { return holds(h, part(w, from, to)) }) {
				return true
			}
		}
	}
	return false
}

// node makes a derivation, right or wrong.
func node(rule int64, pre impl.Expr, p impl.Prog, post impl.Expr, kids ...impl.Derivation) impl.Derivation {
	return impl.Derivation{Rule: rule, Says: triple(pre, p, post), Kids: kids}
}

// derivationBy is D(p, c) of chapter 7.
func derivationBy(g impl.Sig, premises []impl.Premise, p impl.Prog, c impl.Expr) impl.Derivation {
	w := func(p impl.Prog, c impl.Expr) impl.Expr { return conditionBy(g, weakestBy(g, premises, p, c)) }
	d := func(p impl.Prog, c impl.Expr) impl.Derivation { return derivationBy(g, premises, p, c) }
	pre := w(p, c)
	switch p.Kind {
	case impl.PSkip:
		return node(impl.HrTogether, pre, p, c, node(impl.HrSkip, c, skip, c))
	case impl.PFail:
		return node(impl.HrFail, pre, p, c)
	case impl.PAct:
		together := node(impl.HrTogether, pre, p, c)
		for _, x := range premises {
			if x.Act == p.Num {
				together.Kids = append(together.Kids, node(impl.HrAct, x.Pre, p, x.Post))
			}
		}
		return together
	case impl.PAssert:
		return node(impl.HrTogether, pre, p, c, node(impl.HrAssert, or(not(p.Cond), c), p, c))
	case impl.PSeq:
		q, r := p.Kids[0], p.Kids[1]
		return node(impl.HrSeq, pre, p, c, d(q, w(r, c)), d(r, c))
	case impl.PIf:
		q, r := p.Kids[0], p.Kids[1]
		return node(impl.HrIf, pre, p, c, node(impl.HrTogether, and(p.Cond, pre), q, c, d(q, c)), node(impl.HrTogether, and(not(p.Cond), pre), r, c, d(r, c)))
	}
	q := p.Kids[0]
	return node(impl.HrTogether, pre, p, c, node(impl.HrWhile, pre, p, and(not(p.Cond), pre), node(impl.HrTogether, and(p.Cond, pre), q, pre, d(q, pre))))
}

// findBy is FindDerivation of valid arguments.
func findBy(g impl.Sig, premises []impl.Premise, x impl.Triple) (impl.Derivation, int) {
	if _, broken := breakingBy(g, premises, x); broken {
		return impl.Derivation{}, impl.ErrState
	}
	d := node(impl.HrTogether, x.Pre, x.Prog, x.Post, derivationBy(g, premises, x.Prog, x.Post))
	nodes := nodesOfDerivation(d)
	if len(nodes) > impl.MaxDerivation || slices.ContainsFunc(nodes, func(n impl.Derivation) bool { return !saysValid(g, n) }) {
		return impl.Derivation{}, impl.ErrLimit
	}
	return d, impl.OK
}

// nodesOfDerivation are the nodes in the order of their numbers.
func nodesOfDerivation(d impl.Derivation) []impl.Derivation {
	nodes := []impl.Derivation{}
	for _, kid := range d.Kids {
		nodes = append(nodes, nodesOfDerivation(kid)...)
	}
	return append(nodes, d)
}

func saysValid(g impl.Sig, d impl.Derivation) bool {
	return impl.ValidExpr(g, d.Says.Pre) && impl.IsCondition(d.Says.Pre) && impl.ValidExpr(g, d.Says.Post) && impl.IsCondition(d.Says.Post) && impl.ValidProg(g, d.Says.Prog)
}

// isRight tells it of a node by the table; all nodes below say valid triples.
func isRight(g impl.Sig, premises []impl.Premise, d impl.Derivation) bool {
	if !saysValid(g, d) {
		return false
	}
	pre, p, post, said := textOf(d.Says.Pre), d.Says.Prog, textOf(d.Says.Post), []string{}
	for _, kid := range d.Kids {
		said = append(said, tripleByTable(kid.Says))
	}
	c, wanted := textOf(p.Cond), []string{}
	says := func(pre string, q impl.Prog, post string) {
		wanted = append(wanted, "["+pre+"] "+progByTable(q)+" ["+post+"]")
	}
	right := true
	switch d.Rule {
	case impl.HrSkip:
		right = p.Kind == impl.PSkip && pre == post
	case impl.HrFail:
		right = p.Kind == impl.PFail
	case impl.HrAct:
		right = p.Kind == impl.PAct && slices.ContainsFunc(premises, func(x impl.Premise) bool {
			return x.Act == p.Num && textOf(x.Pre) == pre && textOf(x.Post) == post
		})
	case impl.HrAssert:
		right = p.Kind == impl.PAssert && pre == "(~"+c+" + "+post+")"
	case impl.HrSeq:
		if p.Kind != impl.PSeq || len(d.Kids) != 2 {
			return false
		}
		m := textOf(d.Kids[0].Says.Post)
		says(pre, p.Kids[0], m)
		says(m, p.Kids[1], post)
	case impl.HrIf:
		if p.Kind != impl.PIf {
			return false
		}
		says("("+c+" "+pre+")", p.Kids[0], post)
		says("(~"+c+" "+pre+")", p.Kids[1], post)
	case impl.HrWhile:
		if p.Kind != impl.PWhile {
			return false
		}
		right = post == "(~"+c+" "+pre+")"
		says("("+c+" "+pre+")", p.Kids[0], pre)
	default:
		return d.Rule == impl.HrTogether && isTogether(g, d)
	}
	return right && slices.Equal(said, wanted)
}

// isTogether tells whether there is a kid for each pair of atoms.
func isTogether(g impl.Sig, d impl.Derivation) bool {
	for _, kid := range d.Kids {
		if !sameText(kid.Says.Prog, d.Says.Prog) {
			return false
		}
	}
	for _, x := range atomsBy(g, d.Says.Pre) {
		for _, y := range atomsBy(g, not(d.Says.Post)) {
			if !slices.ContainsFunc(d.Kids, func(kid impl.Derivation) bool { return emptyIn(kid.Says.Pre, x) && !emptyIn(kid.Says.Post, y) }) {
				return false
			}
		}
	}
	return true
}

// checkBy is CheckDerivation with valid premises.
func checkBy(g impl.Sig, premises []impl.Premise, d impl.Derivation) []any {
	nodes := nodesOfDerivation(d)
	if len(nodes) > impl.MaxDerivation {
		return list(0, impl.ErrRange)
	}
	for i, n := range nodes {
		if !isRight(g, premises, n) {
			return list(i, impl.ErrProof)
		}
	}
	return list(len(nodes), impl.OK)
}

// ruleNames are the names of the rules in the texts of derivations.
var ruleNames = []string{"none", "skip", "fail", "act", "assert", "seq", "if", "while", "together"}

// derivationText has a line for each node, before those of its kids, which are
// indented.
func derivationText(d impl.Derivation) string {
	text := ruleNames[d.Rule] + " " + tripleByTable(d.Says) + "\n"
	for _, kid := range d.Kids {
		text += "  " + strings.ReplaceAll(strings.TrimSuffix(derivationText(kid), "\n"), "\n", "\n  ") + "\n"
	}
	return text
}

// obliger finds obligations; invariants and pairs belong to the paths of loops.
type obliger struct {
	g          impl.Sig
	premises   []impl.Premise
	invariants map[string]impl.Expr
	pairs      map[string][]impl.Pair
	exceeded   bool
}

// small returns a condition, or another one if it is too large.
func (o *obliger) small(c impl.Expr) impl.Expr {
	if impl.ValidExpr(o.g, c) {
		return c
	}
	o.exceeded = true
	return one
}

// v is the condition V(p, c) of chapter 7.
func (o *obliger) v(path string, p impl.Prog, c impl.Expr) impl.Expr {
	switch p.Kind {
	case impl.PSkip:
		return c
	case impl.PAct:
		return conditionBy(o.g, weakestBy(o.g, o.premises, p, c))
	case impl.PAssert:
		return o.small(or(not(p.Cond), c))
	case impl.PSeq:
		return o.v(path+"0", p.Kids[0], o.v(path+"1", p.Kids[1], c))
	case impl.PIf:
		return o.small(or(and(p.Cond, o.v(path+"0", p.Kids[0], c)), and(not(p.Cond), o.v(path+"1", p.Kids[1], c))))
	case impl.PWhile:
		i := o.invariants[path]
		o.pairs[path] = []impl.Pair{
			{Left: o.small(and(p.Cond, i)), Right: o.small(o.v(path+"0", p.Kids[0], i))},
			{Left: o.small(and(not(p.Cond), i)), Right: o.small(c)},
		}
		return i
	}
	return one
}

// loopPaths are the paths of all loops, in the order of their invariants.
func loopPaths(p impl.Prog) []string {
	paths := []string{}
	for _, place := range progPlaces(p, nil) {
		if place.part.Kind == impl.PWhile {
			paths = append(paths, strings.Join(numbersText(place.path), ""))
		}
	}
	return paths
}

// obligationsBy is ObligationsOf of valid arguments.
func obligationsBy(g impl.Sig, premises []impl.Premise, x impl.Triple, invariants []impl.Expr) ([]impl.Pair, int) {
	paths := loopPaths(x.Prog)
	if len(paths) != len(invariants) {
		return nil, impl.ErrRange
	}
	o := obliger{g: g, premises: premises, invariants: map[string]impl.Expr{}, pairs: map[string][]impl.Pair{}}
	for i, path := range paths {
		o.invariants[path] = invariants[i]
	}
	pairs := []impl.Pair{{Left: x.Pre, Right: o.small(o.v("", x.Prog, x.Post))}}
	for _, path := range paths {
		pairs = append(pairs, o.pairs[path]...)
	}
	if o.exceeded {
		return nil, impl.ErrLimit
	}
	return pairs, impl.OK
}

// weakestInvariants are the conditions of WeakestUnder of all loops, each of
// them by what has to hold behind it.
func weakestInvariants(g impl.Sig, premises []impl.Premise, p impl.Prog, c impl.Expr) []impl.Expr {
	w := func(p impl.Prog, c impl.Expr) impl.Expr { return conditionBy(g, weakestBy(g, premises, p, c)) }
	switch p.Kind {
	case impl.PSeq:
		return append(weakestInvariants(g, premises, p.Kids[0], w(p.Kids[1], c)), weakestInvariants(g, premises, p.Kids[1], c)...)
	case impl.PIf:
		return append(weakestInvariants(g, premises, p.Kids[0], c), weakestInvariants(g, premises, p.Kids[1], c)...)
	case impl.PWhile:
		i := w(p, c)
		return append([]impl.Expr{i}, weakestInvariants(g, premises, p.Kids[0], i)...)
	}
	return nil
}

// randomPremises returns up to so many premises.
func randomPremises(r *rand.Rand, g impl.Sig, most int) []impl.Premise {
	premises := []impl.Premise{}
	for range r.Intn(most + 1) {
		premises = append(premises, premise(randomCondition(r, g, 3), r.Int63n(g.Actions), randomCondition(r, g, 3)))
	}
	return premises
}

// randomTriple returns a triple that often has words that break it.
func randomTriple(r *rand.Rand, g impl.Sig, depth int) impl.Triple {
	x := triple(randomCondition(r, g, 3), randomProg(r, g, depth), randomCondition(r, g, 3))
	if g.Tests > 0 && r.Intn(3) > 0 {
		x.Pre, x.Post = or(x.Pre, test(r.Int63n(g.Tests))), and(x.Post, test(r.Int63n(g.Tests)))
	}
	return x
}

// randomHolding returns a triple that holds under premises, with the weakest
// condition in front.
func randomHolding(r *rand.Rand, g impl.Sig, premises []impl.Premise, depth int) impl.Triple {
	x := randomTriple(r, g, depth)
	x.Pre = conditionBy(g, weakestBy(g, premises, x.Prog, x.Post))
	if r.Intn(2) == 0 {
		x.Pre = and(x.Pre, randomCondition(r, g, 2))
	}
	return x
}

// worldUnder returns a world that models premises.
func worldUnder(r *rand.Rand, g impl.Sig, premises []impl.Premise, states int64) impl.World {
	w := randomWorld(r, g, states)
	for a, row := range w.Acts {
		for s := range row {
			for tries := 0; row[s] >= 0 && !isAllowed(premises, w.Atoms[s], int64(a), w.Atoms[row[s]]); tries++ {
				row[s] = r.Int63n(states)
				if tries == 20 {
					row[s] = -1
				}
			}
		}
	}
	return w
}

// modelsBy tells whether a world models premises.
func modelsBy(w impl.World, premises []impl.Premise) bool {
	for _, p := range premises {
		for s, next := range w.Acts[p.Act] {
			if next >= 0 && emptyIn(p.Pre, w.Atoms[s]) && !emptyIn(p.Post, w.Atoms[next]) {
				return false
			}
		}
	}
	return true
}

// badTriples are no triples of 2 tests and 2 actions.
func badTriples() map[string]impl.Triple {
	bad := map[string]impl.Triple{"nothing": {}}
	for name, c := range badConditions() {
		bad["Pre, "+name], bad["Post, "+name] = triple(c, skip, one), triple(one, skip, c)
	}
	for name, p := range badProgs() {
		bad["Prog, "+name] = triple(one, p, one)
	}
	return bad
}

// badPremises are no premises of 2 tests and 2 actions.
func badPremises() map[string][]impl.Premise {
	good := premise(test(0), 1, test(1))
	bad := map[string][]impl.Premise{"nothing": {{}}, "13 premises": slices.Repeat([]impl.Premise{good}, 13)}
	of := func(name string, x impl.Premise) {
		bad[name] = []impl.Premise{x}
		bad[name+", as the last one of 12"] = append(slices.Repeat([]impl.Premise{good}, 11), x)
	}
	for name, c := range badConditions() {
		of("Pre, "+name, premise(c, 0, one))
		of("Post, "+name, premise(one, 0, c))
	}
	for _, a := range []int64{-1, 2, 1 << 32, -1 << 63, 1<<63 - 1} {
		of("action "+digit(a), premise(one, a, one))
	}
	return bad
}

// mustDerivation reads a derivation that is written like its text.
func mustDerivation(t *testing.T, g impl.Sig, lines ...string) impl.Derivation {
	t.Helper()
	name, text, _ := strings.Cut(lines[0], " ")
	x := mustTriple(t, g, text)
	d := node(int64(slices.Index(ruleNames, name)), x.Pre, x.Prog, x.Post)
	kid := []string{}
	for _, line := range append(slices.Clone(lines[1:]), "  ") {
		if !strings.HasPrefix(line, "    ") && len(kid) > 0 {
			d.Kids = append(d.Kids, mustDerivation(t, g, kid...))
			kid = nil
		}
		kid = append(kid, strings.TrimPrefix(line, "  "))
	}
	return d
}
