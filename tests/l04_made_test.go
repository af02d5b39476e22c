package tests

import (
	"math/rand"
	"slices"
	"strings"
	"testing"

	"loop.example/g01101/impl"
)

// This file tests proofs that are made of others: promise 10.

// checked compares a proof that is made with lines, and checks it.
func checked(t *testing.T, name string, p impl.Proof, code int64, lines ...string) {
	t.Helper()
	want(t, name, list(proofByTable(p), code), list(strings.Join(lines, "\n")+"\n", impl.OK))
	count, code := impl.CheckProof(p)
	want(t, "checked: "+name, list(count, code), list(len(p.Claims), impl.OK))
}

// refused compares nothing and a code.
func refused(t *testing.T, name string, p impl.Proof, got int64, code int) {
	t.Helper()
	want(t, name, list(p, got), list(impl.Proof{}, code))
}

// notShown is a valid proof that is not checked.
func notShown(t *testing.T) impl.Proof {
	t.Helper()
	return mustProof(t, "proof 1 2", "claim a0 = a0", "claim a0 = a1")
}

// someClaims is a proof with a claim of each kind; the last one needs the first
// one, by a step, and the third one, by Ref alone.
var someClaims = []string{
	"proof 1 2",
	"claim (0 + a0) = a0", "axiom 1 > - [] [0; a0]", "axiom 2 > - [] [a0]",
	"claim (a1 + 0) = a1", "axiom 2 > - [] [a1]",
	"claim ((0 + (1 a0)) + a0) = a0", "axiom 5 > 0.1 [] [a0]", "lemma 0 > 0 [] [a0]", "axiom 3 > - [] [a0]",
	"claim ((0 + (a0 1)) + a0) = a0", "axiom 6 > 0.1 [] [a0]", "lemma 0 > 0 [] [a0]", "axiom 3 > - [] [a0]",
	"claim ((1* 0) + a0) = a0", "left 2",
	"claim ((0 1*) + a0) = a0", "right 3",
	"claim (a1 + ((1* 0) + (0 + a1))) = (a1 + a1)", "lemma 0 > 1.1 [] [a1]", "lemma 4 > 1 [] [a1]",
}

func TestTrimProof(t *testing.T) {
	p := mustProof(t, someClaims...)
	trimmed, code := impl.TrimProof(p)
	checked(t, "claims that are needed by steps and by Ref", trimmed, code, "proof 1 2",
		"claim (0 + a0) = a0", "axiom 1 > - [] [0; a0]", "axiom 2 > - [] [a0]",
		"claim ((0 + (1 a0)) + a0) = a0", "axiom 5 > 0.1 [] [a0]", "lemma 0 > 0 [] [a0]", "axiom 3 > - [] [a0]",
		"claim ((1* 0) + a0) = a0", "left 1",
		"claim (a1 + ((1* 0) + (0 + a1))) = (a1 + a1)", "lemma 0 > 1.1 [] [a1]", "lemma 2 > 1 [] [a1]")
	p.Claims = p.Claims[:6]
	trimmed, code = impl.TrimProof(p)
	checked(t, "a last claim by ClRight", trimmed, code, "proof 1 2",
		"claim (0 + a0) = a0", "axiom 1 > - [] [0; a0]", "axiom 2 > - [] [a0]",
		"claim ((0 + (a0 1)) + a0) = a0", "axiom 6 > 0.1 [] [a0]", "lemma 0 > 0 [] [a0]", "axiom 3 > - [] [a0]",
		"claim ((0 1*) + a0) = a0", "right 1")
	p.Claims = p.Claims[:2]
	trimmed, code = impl.TrimProof(p)
	checked(t, "a last claim that needs none", trimmed, code, "proof 1 2", "claim (a1 + 0) = a1", "axiom 2 > - [] [a1]")
	only := mustProof(t, "proof 1 2", "claim ((0 + (0 0)) + 0) = 0", "axiom 9 > 0.1 [] [0]", "axiom 3 > 0 [] [0]", "axiom 3 > - [] [0]", "claim 1 = 1", "claim ((0* 0) + 0) = 0", "left 0")
	trimmed, code = impl.TrimProof(only)
	checked(t, "a claim that is needed by Ref alone", trimmed, code, "proof 1 2",
		"claim ((0 + (0 0)) + 0) = 0", "axiom 9 > 0.1 [] [0]", "axiom 3 > 0 [] [0]", "axiom 3 > - [] [0]", "claim ((0* 0) + 0) = 0", "left 0")
	chained := mustProof(t, "proof 0 1", "claim a0 = a0", "claim a0 = a0", "claim a0 = a0", "lemma 1 < - [] [a0]", "claim a0 = a0", "claim a0 = a0", "lemma 2 < - [] [a0]", "lemma 2 > - [] [a0]")
	trimmed, code = impl.TrimProof(chained)
	checked(t, "what needed claims need", trimmed, code, "proof 0 1", "claim a0 = a0", "claim a0 = a0", "lemma 0 < - [] [a0]", "claim a0 = a0", "lemma 1 < - [] [a0]", "lemma 1 > - [] [a0]")

	trimmed, code = impl.TrimProof(mustProof(t, "proof 1 2"))
	refused(t, "no claims", trimmed, code, impl.ErrState)
	trimmed, code = impl.TrimProof(notShown(t))
	refused(t, "not shown", trimmed, code, impl.ErrProof)
	for name, bad := range badProofs(t) {
		trimmed, code = impl.TrimProof(bad)
		refused(t, name, trimmed, code, impl.ErrInvalid)
	}
	standard, code := impl.TrimProof(impl.StandardProof())
	want(t, "standard", list(len(standard.Claims), code), list(10, impl.OK))
	for i, k := range []int{0, 1, 2, 3, 4, 5, 16, 17, 18, 19} {
		want(t, "claims of the standard proof", equationOf(standard.Claims[i]), equationOf(impl.StandardProof().Claims[k]))
	}
	want(t, "its last steps", stepsText(standard.Claims[9].Steps), "lemma 8 < - [] [a0]\naxiom 1 > - [] [a0*; a0**]\naxiom 6 < 0 [] [a0**]\nlemma 7 > - [] [a0]\n")
}

// needs are the claims that a claim needs at once.
func needs(c impl.Claim) []int64 {
	list := []int64{}
	if c.Rule != impl.ClSteps {
		list = append(list, c.Ref)
	}
	for _, s := range c.Steps {
		if s.Use < 0 {
			list = append(list, -1-s.Use)
		}
	}
	return list
}

// TestTrimAndJoin: random proofs stay checked, and claim the same.
func TestTrimAndJoin(t *testing.T) {
	r := rand.New(rand.NewSource(71))
	left, joined := 0, 0
	for range 250 {
		p, q := randomProof(r, 1+r.Intn(6)), randomProof(r, r.Intn(4))
		trimmed, code := impl.TrimProof(p)
		keep := []int64{int64(len(p.Claims) - 1)}
		for i := 0; i < len(keep); i++ {
			keep = append(keep, needs(p.Claims[keep[i]])...)
		}
		slices.Sort(keep)
		keep = slices.Compact(keep)
		expected := impl.Proof{Sig: p.Sig}
		for _, k := range keep {
			expected.Claims = append(expected.Claims, renumbered(p.Claims[k], func(i int64) int64 { return int64(slices.Index(keep, i)) }))
		}
		want(t, "trimmed "+proofByTable(p), list(proofByTable(trimmed), code), list(proofByTable(expected), impl.OK))
		count, code := impl.CheckProof(trimmed)
		want(t, "checked", list(count, code), list(len(keep), impl.OK))
		left += one01(len(keep) < len(p.Claims))

		both, code := impl.JoinProofs(p, q)
		if len(p.Claims)+len(q.Claims) > 40 {
			refused(t, "too many", both, code, impl.ErrLimit)
			continue
		}
		expected = impl.Proof{Sig: p.Sig, Claims: slices.Clone(p.Claims)}
		for _, c := range q.Claims {
			expected.Claims = append(expected.Claims, renumbered(c, func(i int64) int64 { return int64(len(p.Claims)) + i }))
		}
		want(t, "joined", list(proofByTable(both), code), list(proofByTable(expected), impl.OK))
		count, code = impl.CheckProof(both)
		want(t, "checked", list(count, code), list(len(both.Claims), impl.OK))
		joined++
	}
	if left < 100 || joined < 50 {
		t.Errorf("%d are trimmed, %d are joined: too few", left, joined)
	}
}

// renumbered returns a claim with other numbers of claims.
func renumbered(c impl.Claim, number func(int64) int64) impl.Claim {
	if c.Rule != impl.ClSteps {
		c.Ref = number(c.Ref)
	}
	c.Steps = slices.Clone(c.Steps)
	for i, s := range c.Steps {
		if s.Use < 0 {
			c.Steps[i].Use = -1 - number(-1-s.Use)
		}
	}
	return c
}

func TestJoinProofs(t *testing.T) {
	p, empty := mustProof(t, someClaims...), mustProof(t, "proof 1 2")
	q := mustProof(t, "proof 1 2", "claim ((a1 + (0 a1)) + a1) = a1", "axiom 9 > 0.1 [] [a1]", "axiom 2 > 0 [] [a1]", "axiom 3 > - [] [a1]", "claim ((0* a1) + a1) = a1", "left 0", "claim ((0* a1) + a1) = a1", "lemma 1 > - [] [0; a1]")
	both, code := impl.JoinProofs(p, q)
	checked(t, "joined", both, code, append(slices.Clone(someClaims), "claim ((a1 + (0 a1)) + a1) = a1", "axiom 9 > 0.1 [] [a1]", "axiom 2 > 0 [] [a1]", "axiom 3 > - [] [a1]",
		"claim ((0* a1) + a1) = a1", "left 7", "claim ((0* a1) + a1) = a1", "lemma 8 > - [] [0; a1]")...)
	both, code = impl.JoinProofs(p, empty)
	checked(t, "nothing behind", both, code, someClaims...)
	both, code = impl.JoinProofs(empty, p)
	checked(t, "nothing before", both, code, someClaims...)
	both, code = impl.JoinProofs(empty, empty)
	checked(t, "nothing at all", both, code, "proof 1 2")
	lines := func(claims int) impl.Proof {
		return mustProof(t, append([]string{"proof 1 2"}, slices.Repeat([]string{"claim a0 = a0"}, claims)...)...)
	}
	for _, row := range [][3]int{{20, 20, impl.OK}, {40, 0, impl.OK}, {0, 40, impl.OK}, {39, 1, impl.OK}, {21, 20, impl.ErrLimit}, {40, 1, impl.ErrLimit}, {1, 40, impl.ErrLimit}, {40, 40, impl.ErrLimit}} {
		both, code := impl.JoinProofs(lines(row[0]), lines(row[1]))
		want(t, "limit", code, row[2])
		want(t, "limit", len(both.Claims), one01(row[2] == impl.OK)*(row[0]+row[1]))
	}
	others := []impl.Proof{mustProof(t, "proof 2 2", "claim 1 = 1"), mustProof(t, "proof 1 1", "claim 1 = 1"), mustProof(t, "proof 0 0")}
	full, wrong := mustProof(t, append([]string{"proof 0 0"}, slices.Repeat([]string{"claim 1 = 1"}, 40)...)...), mustProof(t, "proof 0 0", "claim 1 = 0")
	for _, other := range others {
		both, code = impl.JoinProofs(p, other)
		refused(t, "another signature", both, code, impl.ErrRange)
		both, code = impl.JoinProofs(other, p)
		refused(t, "another signature", both, code, impl.ErrRange)
	}
	both, code = impl.JoinProofs(full, p)
	refused(t, "the signature before the limit", both, code, impl.ErrRange)
	for _, pair := range [][2]impl.Proof{{p, notShown(t)}, {notShown(t), p}, {p, wrong}, {wrong, p}, {lines(40), notShown(t)}} {
		both, code = impl.JoinProofs(pair[0], pair[1])
		refused(t, "not shown", both, code, impl.ErrProof)
	}
	for name, bad := range badProofs(t) {
		for _, pair := range [][2]impl.Proof{{bad, p}, {p, bad}, {bad, bad}, {wrong, bad}, {bad, wrong}} {
			both, code = impl.JoinProofs(pair[0], pair[1])
			refused(t, name, both, code, impl.ErrInvalid)
		}
	}
}

func TestAddInstance(t *testing.T) {
	p := mustProof(t, append(slices.Clone(someClaims), "claim ~(~t0 + 0) = t0", "axiom 2 > 0 [] [~t0]", "axiom 17 > - [t0] []", "claim 0 = (0 a0)", "axiom 9 < - [] [a0]", "claim ~1 = 0", "axiom 21 > - [] []",
		"claim (a1 + 0) = a1", "lemma 1 > - [] [1; a1]")...)
	lines := strings.Split(strings.TrimSuffix(proofByTable(p), "\n"), "\n")
	rows := []struct {
		k           int64
		tests, acts string
		claim, step string // nothing, and the name of the code
	}{
		{0, "", "(a0 a1)*", "claim (0 + (a0 a1)*) = (a0 a1)*", "lemma 0 > - [] [(a0 a1)*]"}, {4, "", "~t0", "claim ((1* 0) + ~t0) = ~t0", "lemma 4 > - [] [~t0]"},
		{7, "(t0 1)", "", "claim ~(~(t0 1) + 0) = (t0 1)", "lemma 7 > - [(t0 1)] []"}, {8, "", "1", "claim 0 = (0 1)", "lemma 8 > - [] [1]"}, {9, "", "", "claim ~1 = 0", "lemma 9 > - [] []"},
		{1, "", "a1; a0", "claim (a0 + 0) = a0", "lemma 1 > - [] [a1; a0]"}, {10, "", "1; 0", "claim (0 + 0) = 0", "lemma 10 > - [] [1; 0]"},
		{11, "", "a0", "", "range"}, {-1, "", "a0", "", "range"}, {1 << 62, "", "a0", "", "range"}, {-1 << 63, "", "a0", "", "range"},
		{0, "", "", "", "range"}, {0, "", "a0; a1", "", "range"}, {0, "t0", "a0", "", "range"}, {1, "", "a1", "", "range"}, {1, "", "a1; a1; a1", "", "range"},
		{7, "", "", "", "range"}, {7, "t0; t0", "", "", "range"}, {7, "t0", "a0", "", "range"}, {8, "", "", "", "range"}, {9, "1", "", "", "range"}, {9, "", "1", "", "range"},
		{7, "a0", "", "", "state"}, {7, "t0*", "", "", "state"}, {7, "(t0 + (a0 0))", "", "", "state"}, {7, "a0; a0", "", "", "range"}, {99, "a0", "", "", "range"},
	}
	for _, r := range rows {
		more, code := impl.AddInstance(p, r.k, mustExprs(t, p.Sig, r.tests), mustExprs(t, p.Sig, r.acts))
		if r.claim == "" {
			want(t, "instance of "+digit(r.k)+" by "+r.tests+" and "+r.acts, list(more, impl.CodeName(code)), list(impl.Proof{}, r.step))
			continue
		}
		checked(t, "instance of "+digit(r.k), more, code, append(slices.Clone(lines), r.claim, r.step)...)
	}
	half, deep := balanced(50, "a0", " "), "a0"+strings.Repeat("*", 37)
	add := func(p impl.Proof, k int64, tests, acts []impl.Expr) int64 {
		more, code := impl.AddInstance(p, k, tests, acts)
		want(t, "claims", len(more.Claims), one01(code == impl.OK)*(len(p.Claims)+1))
		return code
	}
	doubled := mustProof(t, "proof 1 2", "claim (a0 + a0) = a0", "axiom 3 > - [] [a0]", "claim a0 = (a0 + a0)", "axiom 3 < - [] [a0]")
	for text, code := range map[string]int{half: impl.OK, half + "*": impl.ErrLimit, deep + "*": impl.OK, deep + "**": impl.ErrLimit} {
		for k := range int64(2) {
			want(t, "limit of "+short(text), add(doubled, k, nil, mustExprs(t, p.Sig, text)), code)
		}
	}
	for _, row := range [][2]int{{39, impl.OK}, {40, impl.ErrLimit}} {
		many := mustProof(t, append([]string{"proof 1 2"}, slices.Repeat([]string{"claim (t0 + a0) = (t0 + a0)"}, row[0])...)...)
		want(t, "limit of claims", add(many, 38, mustExprs(t, p.Sig, "t0"), mustExprs(t, p.Sig, "a0")), row[1])
		want(t, "no condition before the limit", add(many, 38, mustExprs(t, p.Sig, "a0"), mustExprs(t, p.Sig, "a0")), impl.ErrState)
		want(t, "lists before the limit", add(many, 38, nil, mustExprs(t, p.Sig, "a0")), impl.ErrRange)
	}
	many := impl.Proof{Sig: p.Sig}
	for range 39 {
		many.Claims = append(many.Claims, doubled.Claims[0])
	}
	want(t, "limit of the claim with 39 claims", add(many, 0, nil, mustExprs(t, p.Sig, half+"*")), impl.ErrLimit)
	for _, k := range []int64{0, 99} {
		want(t, "not shown", add(notShown(t), k, nil, nil), impl.ErrProof)
		want(t, "not shown", add(notShown(t), k, mustExprs(t, sig12, "a0"), mustExprs(t, sig12, "a0")), impl.ErrProof)
	}
	two := mustProof(t, "proof 2 2", "claim a0 = a0")
	for name, e := range badExprs() {
		for _, q := range []impl.Proof{two, mustProof(t, "proof 2 2", "claim 0 = 1")} {
			want(t, "test: "+name, add(q, 0, []impl.Expr{one, e}, []impl.Expr{act(0)}), impl.ErrInvalid)
			want(t, "action: "+name, add(q, 99, []impl.Expr{act(0)}, []impl.Expr{act(0), one, one, one, one, e}), impl.ErrInvalid)
		}
	}
	for name, bad := range badProofs(t) {
		want(t, name, add(bad, 0, nil, nil), impl.ErrInvalid)
		want(t, name, add(bad, 99, []impl.Expr{act(0)}, nil), impl.ErrInvalid)
	}
}

// TestRandomInstances: the instance is that of Substitute, and all is checked.
func TestRandomInstances(t *testing.T) {
	r := rand.New(rand.NewSource(72))
	added := 0
	for range 400 {
		p := randomProof(r, 1)
		k := r.Intn(len(p.Claims))
		q := equationOf(p.Claims[k])
		tests, acts := partsFor(r, p.Sig, 2)
		tests, acts = tests[:fullLength("t", q.Left, q.Right)], acts[:fullLength("a", q.Left, q.Right)]
		more, code := impl.AddInstance(p, int64(k), tests, acts)
		left, first := impl.Substitute(p.Sig, q.Left, tests, acts)
		right, second := impl.Substitute(p.Sig, q.Right, tests, acts)
		if first != impl.OK || second != impl.OK {
			refused(t, "too large", more, code, impl.ErrLimit)
			continue
		}
		added++
		c := impl.Claim{Left: left, Right: right, Rule: impl.ClSteps, Steps: []impl.ProofStep{{Use: int64(-1 - k), Tests: tests, Acts: acts}}}
		want(t, "instance of "+textOf(q.Left), list(proofByTable(more), code), list(proofByTable(impl.Proof{Sig: p.Sig, Claims: append(slices.Clone(p.Claims), c)}), impl.OK))
		count, code := impl.CheckProof(more)
		want(t, "checked", list(count, code), list(len(p.Claims)+1, impl.OK))
	}
	if added < 300 {
		t.Errorf("only %d are added", added)
	}
}

func TestInlineClaim(t *testing.T) {
	zeros := []string{"claim (0 + (0 + a0)) = a0", "axiom 1 > - [] [0; (0 + a0)]", "axiom 2 > - [] [(0 + a0)]", "axiom 1 > - [] [0; a0]", "axiom 2 > - [] [a0]"}
	rows := []struct {
		name   string
		before []string
		k      int64
		claims []string // instead of those behind the claim k, which is the last one before
		result []string
	}{
		{"a step forth", zeros, 0, []string{"claim (0 + (0 + a1)) = a1", "lemma 0 > - [] [a1]"},
			[]string{"claim (0 + (0 + a1)) = a1", "axiom 1 > - [] [0; (0 + a1)]", "axiom 2 > - [] [(0 + a1)]", "axiom 1 > - [] [0; a1]", "axiom 2 > - [] [a1]"}},
		{"a step back", zeros, 0, []string{"claim a1* = (0 + (0 + a1*))", "lemma 0 < - [] [a1*]"},
			[]string{"claim a1* = (0 + (0 + a1*))", "axiom 2 < - [] [a1*]", "axiom 1 < - [] [0; a1*]", "axiom 2 < - [] [(0 + a1*)]", "axiom 1 < - [] [0; (0 + a1*)]"}},
		{"a step at a path", zeros, 0, []string{"claim (t0 ~(0 + (0 + t0))) = (t0 ~t0)", "lemma 0 > 1.0 [] [t0]"},
			[]string{"claim (t0 ~(0 + (0 + t0))) = (t0 ~t0)", "axiom 1 > 1.0 [] [0; (0 + t0)]", "axiom 2 > 1.0 [] [(0 + t0)]", "axiom 1 > 1.0 [] [0; t0]", "axiom 2 > 1.0 [] [t0]"}},
		{"paths behind one another", []string{"claim (a0 (a1 + 0)) = (a0 a1)", "axiom 2 > 1 [] [a1]"}, 0, []string{"claim (1 (a1 (t0 + 0))) = (1 (a1 t0))", "lemma 0 > 1 [] [a1; t0]"},
			[]string{"claim (1 (a1 (t0 + 0))) = (1 (a1 t0))", "axiom 2 > 1.1 [] [t0]"}},
		{"a step back at a path, with one back in the claim", []string{"claim (a0 + 0) = (a0 1)", "axiom 2 > - [] [a0]", "axiom 6 < - [] [a0]"}, 0,
			[]string{"claim (a0 1)* = (a0 + 0)*", "lemma 0 < 0 [] [a0]"}, []string{"claim (a0 1)* = (a0 + 0)*", "axiom 6 > 0 [] [a0]", "axiom 2 < 0 [] [a0]"}},
		{"other steps stay", zeros, 0, []string{"claim ((0 + (0 + a1)) + 0) = (a1 1)", "axiom 2 > - [] [(0 + (0 + a1))]", "lemma 0 > - [] [a1]", "axiom 6 < - [] [a1]"},
			[]string{"claim ((0 + (0 + a1)) + 0) = (a1 1)", "axiom 2 > - [] [(0 + (0 + a1))]", "axiom 1 > - [] [0; (0 + a1)]", "axiom 2 > - [] [(0 + a1)]", "axiom 1 > - [] [0; a1]", "axiom 2 > - [] [a1]", "axiom 6 < - [] [a1]"}},
		{"several uses, in several claims", []string{"claim (a0 + 0) = a0", "axiom 2 > - [] [a0]"}, 0,
			[]string{"claim ((t0 + 0) + 0) = t0", "lemma 0 > - [] [(t0 + 0)]", "lemma 0 > - [] [t0]", "claim 1 = (1 + 0)", "lemma 0 < - [] [1]", "claim 1 = (1 + 0)", "lemma 2 > - [] []"},
			[]string{"claim ((t0 + 0) + 0) = t0", "axiom 2 > - [] [(t0 + 0)]", "axiom 2 > - [] [t0]", "claim 1 = (1 + 0)", "axiom 2 < - [] [1]", "claim 1 = (1 + 0)", "lemma 2 > - [] []"}},
		{"a claim that uses another one", append(slices.Clone(zeros), "claim (0 + (0 + a0*)) = a0*", "lemma 0 > - [] [a0*]"), 1, []string{"claim (0 + (0 + t0*)) = t0*", "lemma 1 > - [] [t0]", "claim 0 = 0", "lemma 0 < - [] [0]", "lemma 0 > - [] [0]"},
			[]string{"claim (0 + (0 + t0*)) = t0*", "lemma 0 > - [] [t0*]", "claim 0 = 0", "lemma 0 < - [] [0]", "lemma 0 > - [] [0]"}},
		{"tests", []string{"claim ~(t0 + 0) = ~~~t0", "axiom 2 > 0 [] [t0]", "axiom 17 < - [~t0] []"}, 0, []string{"claim ~((t0 1) + 0) = ~~~(t0 1)", "lemma 0 > - [(t0 1)] []"},
			[]string{"claim ~((t0 1) + 0) = ~~~(t0 1)", "axiom 2 > 0 [] [(t0 1)]", "axiom 17 < - [~(t0 1)] []"}},
		{"several tests and actions", []string{"claim ((t0 t1) + (a0 + a1)) = ((t1 t0) + (a1 + a0))", "axiom 14 > 0 [t0; t1] []", "axiom 1 > 1 [] [a0; a1]"}, 0,
			[]string{"claim ((~t1 0) + (a1* + t0)) = ((0 ~t1) + (t0 + a1*))", "lemma 0 > - [~t1; 0] [a1*; t0]"},
			[]string{"claim ((~t1 0) + (a1* + t0)) = ((0 ~t1) + (t0 + a1*))", "axiom 14 > 0 [~t1; 0] []", "axiom 1 > 1 [] [a1*; t0]"}},
		{"a claim without steps", []string{"claim a0 = a0"}, 0, []string{"claim a1 = a1", "lemma 0 > - [] [a1]", "lemma 0 < - [] [a1]"}, []string{"claim a1 = a1"}},
		{"no use", zeros, 0, []string{"claim a1 = a1", "axiom 2 < - [] [a1]", "axiom 2 > - [] [a1]"}, []string{"claim a1 = a1", "axiom 2 < - [] [a1]", "axiom 2 > - [] [a1]"}},
		{"fewer elements than numbers: actions", []string{"claim 0 = 0", "axiom 9 < - [] [a1]", "axiom 9 < 0 [] [(a0 a0)]", "axiom 9 > 0 [] [(a0 a0)]", "axiom 9 > - [] [a1]"}, 0, []string{"claim (0 a0) = (0 a0)", "lemma 0 > 0 [] []"},
			[]string{"claim (0 a0) = (0 a0)", "axiom 9 < 0 [] [1]", "axiom 9 < 0.0 [] [(1 1)]", "axiom 9 > 0.0 [] [(1 1)]", "axiom 9 > 0 [] [1]"}},
		{"fewer elements than numbers: the second one", []string{"claim (0 a0) = 0", "axiom 9 > - [] [a0]", "axiom 9 < - [] [(a0 a1)]", "axiom 9 > - [] [(a0 a1)]"}, 0, []string{"claim (0 t0) = 0", "lemma 0 > - [] [t0]"},
			[]string{"claim (0 t0) = 0", "axiom 9 > - [] [t0]", "axiom 9 < - [] [(t0 1)]", "axiom 9 > - [] [(t0 1)]"}},
		{"fewer elements than numbers: tests", []string{"claim 1 = 1", "axiom 15 < - [t0] []", "axiom 15 > - [t0] []"}, 0, []string{"claim (1 a0) = (1 a0)", "lemma 0 < 0 [] []"},
			[]string{"claim (1 a0) = (1 a0)", "axiom 15 < 0 [1] []", "axiom 15 > 0 [1] []"}},
		{"below a negation, by what is a condition then", []string{"claim 0 = 0", "axiom 9 < - [] [a1]", "axiom 9 > - [] [a1]"}, 0, []string{"claim ~0 = ~0", "lemma 0 > 0 [] []"}, []string{"claim ~0 = ~0", "axiom 9 < 0 [] [1]", "axiom 9 > 0 [] [1]"}},
	}
	for _, r := range rows {
		head := append([]string{"proof 2 2"}, r.before...)
		p := mustProof(t, append(slices.Clone(head), r.claims...)...)
		count, code := impl.CheckProof(p)
		want(t, r.name+": the proof before", list(count, code), list(len(p.Claims), impl.OK))
		q, code := impl.InlineClaim(p, r.k)
		checked(t, r.name, q, code, append(slices.Clone(head), r.result...)...)
	}
}

// TestInlineLimits: results that are not valid, or not shown any more.
func TestInlineLimits(t *testing.T) {
	half, full := balanced(50, "a0", " "), balanced(50, "a0", " ")+"*"
	back := "axiom 2 < - [] [a0]\naxiom 2 > - [] [a0]"
	rows := []struct {
		name  string
		lines []string
		k     int64
		code  int
	}{
		{"60 steps", []string{"claim a0 = a0", back, "claim a0 = a0", strings.Repeat("lemma 0 > - [] [a0]\n", 29) + back}, 0, impl.OK},
		{"61 steps", []string{"claim a0 = a0", back, "claim (a0 + 0) = a0", strings.Repeat("lemma 0 > 0 [] [a0]\n", 30) + "axiom 2 > - [] [a0]"}, 0, impl.ErrLimit},
		{"60 steps of 60", []string{"claim a0 = a0", strings.Repeat(back+"\n", 29) + back, "claim a0 = a0", "lemma 0 > - [] [a0]"}, 0, impl.OK},
		{"3600 steps", []string{"claim a0 = a0", strings.Repeat(back+"\n", 29) + back, "claim a0 = a0", strings.Repeat("lemma 0 > - [] [a0]\n", 59) + "lemma 0 < - [] [a0]"}, 0, impl.ErrLimit},
		{"60 steps less", []string{"claim a0 = a0", "claim a0 = a0", strings.Repeat("lemma 0 > - [] [a0]\n", 59) + "lemma 0 < - [] [a0]"}, 0, impl.OK},
		{"199 nodes on the way", []string{"claim a0 = a0", "axiom 3 < - [] [a0]\naxiom 3 > - [] [a0]", "claim " + half + " = " + half, "lemma 0 > - [] [" + half + "]"}, 0, impl.OK},
		{"201 nodes on the way", []string{"claim a0 = a0", "axiom 3 < - [] [a0]\naxiom 3 > - [] [a0]", "claim " + full + " = " + full, "lemma 0 > - [] [" + full + "]"}, 0, impl.ErrLimit},
		{"lists that are not full", []string{"claim a0 = a0", "axiom 9 < - [] []", "claim 1 = 1"}, 0, impl.ErrProof},
		{"200 nodes with a list", []string{"claim (0 a0) = 0", "axiom 9 > - [] [a0]\naxiom 9 < - [] [(a0 1)]\naxiom 9 > - [] [(a0 1)]", "claim (0 " + balanced(98, "a0", " ") + "*) = 0", "lemma 0 > - [] [" + balanced(98, "a0", " ") + "*]"}, 0, impl.OK},
		{"201 nodes with a list", []string{"claim (0 a0) = 0", "axiom 9 > - [] [a0]\naxiom 9 < - [] [(a0 1)]\naxiom 9 > - [] [(a0 1)]", "claim (0 " + balanced(99, "a0", " ") + ") = 0", "lemma 0 > - [] [" + balanced(99, "a0", " ") + "]"}, 0, impl.ErrLimit},
		{"a list of 201 nodes", []string{"claim (0 a0) = 0", "axiom 9 > - [] [a0]\naxiom 9 < - [] [(a0 a0)]\naxiom 9 > - [] [(a0 a0)]", "claim (0 " + full + ") = 0", "lemma 0 > - [] [" + full + "]"}, 0, impl.ErrLimit},
		{"a list that is too deep", []string{"claim (0 a0) = 0", "axiom 9 > - [] [a0]\naxiom 9 < - [] [a0**]\naxiom 9 > - [] [a0**]", "claim (0 a0" + strings.Repeat("*", 38) + ") = 0", "lemma 0 > - [] [a0" + strings.Repeat("*", 38) + "]"}, 0, impl.ErrLimit},
		{"what is no condition below a negation", []string{"claim 0 = 0", "axiom 9 < - [] [0*]\naxiom 9 > - [] [0*]", "claim ~0 = ~0", "lemma 0 > 0 [] []"}, 0, impl.ErrLimit},
		{"what is no condition elsewhere", []string{"claim 0 = 0", "axiom 9 < - [] [0*]\naxiom 9 > - [] [0*]", "claim 0* = 0*", "lemma 0 > 0 [] []"}, 0, impl.OK},
		{"not shown by steps", []string{"claim ((0 + (0 0)) + 0) = 0", "axiom 9 > 0.1 [] [0]\naxiom 3 > 0 [] [0]\naxiom 3 > - [] [0]", "claim ((0* 0) + 0) = 0", "left 0"}, 1, impl.ErrState},
		{"not shown by steps", []string{"claim ((0 + (0 0)) + 0) = 0", "axiom 9 > 0.1 [] [0]\naxiom 3 > 0 [] [0]\naxiom 3 > - [] [0]", "claim ((0 0*) + 0) = 0", "right 0"}, 1, impl.ErrState},
		{"shown by steps", []string{"claim ((0 + (0 0)) + 0) = 0", "axiom 9 > 0.1 [] [0]\naxiom 3 > 0 [] [0]\naxiom 3 > - [] [0]", "claim ((0 0*) + 0) = 0", "right 0"}, 0, impl.OK},
		{"no claim 1", []string{"claim 0 = 0"}, 1, impl.ErrRange}, {"no claim -1", []string{"claim 0 = 0"}, -1, impl.ErrRange}, {"no claim at all", nil, 0, impl.ErrRange},
		{"no claim", []string{"claim 0 = 0"}, 1<<63 - 1, impl.ErrRange}, {"no claim", []string{"claim 0 = 0"}, -1 << 63, impl.ErrRange},
		{"not shown", []string{"claim 0 = 1"}, 0, impl.ErrProof}, {"not shown before no claim", []string{"claim 0 = 1"}, 7, impl.ErrProof},
		{"not shown before its rule", []string{"claim 1 = 1", "claim ((0* 0) + 0) = 0", "left 0"}, 1, impl.ErrProof},
	}
	for _, r := range rows {
		lines := strings.Split(strings.Join(append([]string{"proof 1 2"}, r.lines...), "\n"), "\n")
		p := mustProof(t, slices.DeleteFunc(lines, func(line string) bool { return line == "" })...)
		q, code := impl.InlineClaim(p, r.k)
		want(t, r.name, code, r.code)
		if r.code == impl.OK {
			expected, _ := inlineByTable(p, int(r.k))
			want(t, r.name, proofByTable(q), proofByTable(expected))
		} else {
			refused(t, r.name, q, code, r.code)
		}
	}
	for name, bad := range badProofs(t) {
		for _, k := range []int64{0, 99} {
			q, code := impl.InlineClaim(bad, k)
			refused(t, name, q, code, impl.ErrInvalid)
		}
	}
}

// TestRandomInlines: all claims of random proofs are put in place of their uses.
func TestRandomInlines(t *testing.T) {
	r := rand.New(rand.NewSource(73))
	inlined, limits := 0, 0
	for range 60 {
		p := randomProof(r, 1+r.Intn(6))
		for k, c := range p.Claims {
			q, code := impl.InlineClaim(p, int64(k))
			if c.Rule != impl.ClSteps {
				refused(t, "no steps", q, code, impl.ErrState)
				continue
			}
			expected, second := inlineByTable(p, k)
			want(t, "claim "+digit(int64(k))+" of "+proofByTable(p), list(proofByTable(q), code), list(proofByTable(expected), second))
			if code != impl.OK {
				limits++
				continue
			}
			inlined++
			count, code := impl.CheckProof(q)
			want(t, "checked", list(count, code), list(len(p.Claims), impl.OK))
			for i := range q.Claims {
				want(t, "the same claims", equationOf(q.Claims[i]), equationOf(p.Claims[i]))
				want(t, "no use is left", slices.ContainsFunc(q.Claims[i].Steps, func(s impl.ProofStep) bool { return s.Use == int64(-1-k) }), false)
			}
		}
	}
	if inlined < 300 {
		t.Errorf("%d claims are inlined, %d exceed a limit", inlined, limits)
	}
}
