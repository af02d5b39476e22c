package tests

import (
	"math/rand"
	"slices"
	"strings"
	"testing"

	"loop.example/g01101/impl"
)

// This file tests proofs, their texts, their steps and how they are checked:
// promises 9 and 10.

// standardText is the text of the standard proof in the specification.
const standardText = `proof 1 2
claim (1 + a0*) = a0*
axiom 11 < 1 [] [a0]
axiom 0 > - [] [1; 1; (a0 a0*)]
axiom 3 > 0 [] [1]
axiom 11 > - [] [a0]
claim ((a0 a0*) + a0*) = a0*
axiom 11 < 1 [] [a0]
axiom 1 > 1 [] [1; (a0 a0*)]
axiom 0 > - [] [(a0 a0*); (a0 a0*); 1]
axiom 3 > 0 [] [(a0 a0*)]
axiom 1 > - [] [(a0 a0*); 1]
axiom 11 > - [] [a0]
claim ((a0* + (a0 a0*)) + a0*) = a0*
axiom 0 < - [] [a0*; (a0 a0*); a0*]
lemma 1 > 1 [] [a0]
axiom 3 > - [] [a0*]
claim ((a0* a0*) + a0*) = a0*
left 2
claim (a0* + (a0* a0*)) = (a0* a0*)
axiom 5 < 0 [] [a0*]
axiom 8 < - [] [1; a0*; a0*]
lemma 0 > 0 [] [a0]
claim (a0* a0*) = a0*
lemma 4 < - [] [a0]
axiom 1 > - [] [a0*; (a0* a0*)]
lemma 3 > - [] [a0]
claim 0* = 1
axiom 11 < - [] [0]
axiom 9 > 1 [] [0*]
axiom 2 > - [] [1]
claim ((1 + (1 1)) + 1) = 1
axiom 5 > 0.1 [] [1]
axiom 3 > 0 [] [1]
axiom 3 > - [] [1]
claim ((1* 1) + 1) = 1
left 7
claim 1* = 1
lemma 0 < - [] [1]
axiom 1 > - [] [1; 1*]
axiom 6 < 0 [] [1*]
lemma 8 > - [] []
claim ((a0 + ((a0 a1) (a0 (a1 a0)*))) + (a0 (a1 a0)*)) = (a0 (a1 a0)*)
axiom 4 < 0.1 [] [a0; a1; (a0 (a1 a0)*)]
axiom 4 > 0.1.1 [] [a1; a0; (a1 a0)*]
axiom 6 < 0.0 [] [a0]
axiom 7 < 0 [] [a0; 1; ((a1 a0) (a1 a0)*)]
axiom 11 > 0.1 [] [(a1 a0)]
axiom 3 > - [] [(a0 (a1 a0)*)]
claim (((a0 a1)* a0) + (a0 (a1 a0)*)) = (a0 (a1 a0)*)
left 10
claim ((a0 + (((a0 a1)* a0) (a1 a0))) + ((a0 a1)* a0)) = ((a0 a1)* a0)
axiom 4 > 0.1 [] [((a0 a1)* a0); a1; a0]
axiom 4 < 0.1.0 [] [(a0 a1)*; a0; a1]
axiom 5 < 0.0 [] [a0]
axiom 8 < 0 [] [1; ((a0 a1)* (a0 a1)); a0]
axiom 12 > 0.0 [] [(a0 a1)]
axiom 3 > - [] [((a0 a1)* a0)]
claim ((a0 (a1 a0)*) + ((a0 a1)* a0)) = ((a0 a1)* a0)
right 12
claim ((a0 a1)* a0) = (a0 (a1 a0)*)
lemma 13 < - [] [a0; a1]
axiom 1 > - [] [(a0 (a1 a0)*); ((a0 a1)* a0)]
lemma 11 > - [] [a0; a1]
claim ((t0 a0)* ~t0) = (~t0 + ((t0 a0) ((t0 a0)* ~t0)))
axiom 11 < 0 [] [(t0 a0)]
axiom 8 > - [] [1; ((t0 a0) (t0 a0)*); ~t0]
axiom 5 > 0 [] [~t0]
axiom 4 < 1 [] [(t0 a0); (t0 a0)*; ~t0]
claim ((1 + (a0* a0*)) + a0*) = a0*
lemma 5 > 0.1 [] [a0]
lemma 0 > 0 [] [a0]
axiom 3 > - [] [a0*]
claim ((a0** 1) + a0*) = a0*
left 16
claim (a0* + a0**) = a0**
axiom 11 < 1 [] [a0*]
axiom 0 > - [] [a0*; 1; (a0* a0**)]
axiom 1 > 0 [] [a0*; 1]
axiom 0 < - [] [1; a0*; (a0* a0**)]
axiom 6 < 1.0 [] [a0*]
axiom 7 < 1 [] [a0*; 1; a0**]
lemma 0 > 1.1 [] [a0*]
axiom 11 > - [] [a0*]
claim a0** = a0*
lemma 18 < - [] [a0]
axiom 1 > - [] [a0*; a0**]
axiom 6 < 0 [] [a0**]
lemma 17 > - [] [a0]
`

func TestStandardProof(t *testing.T) {
	p := impl.StandardProof()
	want(t, "text", proofByTable(p), standardText)
	want(t, "text", impl.ProofText(p), standardText)
	read, code := impl.ReadProof(standardText)
	want(t, "read", list(read, code), list(p, impl.OK))
	count, code := impl.CheckProof(p)
	want(t, "checked", list(count, code, impl.ValidProof(p)), list(20, impl.OK, true))
	expected, second := checkByTable(p)
	want(t, "checked by the table", list(expected, second), list(20, impl.OK))
}

func TestValidProof(t *testing.T) {
	for name, p := range badProofs(t) {
		want(t, name, list(impl.ValidProof(p), impl.ProofText(p)), list(false, ""))
		count, code := impl.CheckProof(p)
		want(t, "checked: "+name, list(count, code), list(0, impl.ErrInvalid))
	}
	deep, large := nested(impl.EStar, 39, act(0)), mustExpr(t, sig12, balanced(100, "a0", " ")+"*")
	step := impl.ProofStep{Use: 23, Back: true, Path: make([]int64, 40), Tests: []impl.Expr{one, test(0), zero}, Acts: []impl.Expr{deep, large, act(0), one}}
	step.Path[39] = 1
	claim := impl.Claim{Left: deep, Right: large, Rule: impl.ClSteps, Steps: slices.Repeat([]impl.ProofStep{step, {Use: -40}}, 30)}
	good := map[string]impl.Proof{
		"no claims":        {},
		"largest":          {Sig: sig12, Claims: slices.Repeat([]impl.Claim{claim}, 40)},
		"Ref 39":           {Sig: sig34, Claims: []impl.Claim{{Left: one, Right: zero, Rule: impl.ClLeft, Ref: 39}, {Left: one, Right: zero, Rule: impl.ClRight, Ref: 39}}},
		"more than Sig":    {Claims: []impl.Claim{{Left: one, Right: zero, Rule: impl.ClSteps, Steps: []impl.ProofStep{{Tests: []impl.Expr{one, one, one}, Acts: []impl.Expr{one, one, one, one}}}}}},
		"empty, not nil":   {Claims: []impl.Claim{{Left: impl.Expr{Kind: impl.EOne, Kids: []impl.Expr{}}, Right: one, Rule: impl.ClLeft, Steps: []impl.ProofStep{}}}},
		"not to be shown":  {Claims: []impl.Claim{{Left: one, Right: zero, Rule: impl.ClSteps}}},
		"standard":         impl.StandardProof(),
		"all limits of g":  {Sig: sig34, Claims: []impl.Claim{{Left: test(2), Right: act(3), Rule: impl.ClSteps}}},
		"steps before all": {Claims: []impl.Claim{{Left: one, Right: one, Rule: impl.ClSteps, Steps: []impl.ProofStep{{Use: -1}}}}},
	}
	for name, p := range good {
		want(t, name, list(impl.ValidProof(p), impl.ProofText(p)), list(true, proofByTable(p)))
	}
	step.Path = make([]int64, 41)
	claim.Steps[1] = step
	want(t, "one path that is too long", impl.ValidProof(impl.Proof{Sig: sig12, Claims: []impl.Claim{claim}}), false)
}

func TestSameProof(t *testing.T) {
	lines := []string{"proof 2 2", "claim t0 = a0", "axiom 3 > 0.1 [t0; 1] [a0; a1]", "lemma 2 < - [0] [1]", "claim 1 = 0", "left 3"}
	others := map[int][]string{
		0: {"proof 3 2", "proof 2 3"}, 1: {"claim t1 = a0", "claim t0 = a1", "claim t0 = (a0 a0)"},
		2: {"axiom 4 > 0.1 [t0; 1] [a0; a1]", "axiom 3 < 0.1 [t0; 1] [a0; a1]", "axiom 3 > 0.0 [t0; 1] [a0; a1]", "axiom 3 > 0 [t0; 1] [a0; a1]", "axiom 3 > 0.1.0 [t0; 1] [a0; a1]",
			"axiom 3 > - [t0; 1] [a0; a1]", "axiom 3 > 0.1 [t1; 1] [a0; a1]", "axiom 3 > 0.1 [t0] [a0; a1]", "axiom 3 > 0.1 [t0; 1; 1] [a0; a1]", "axiom 3 > 0.1 [t0; 1] [a0; a0]",
			"axiom 3 > 0.1 [t0; 1] [a0]", "axiom 3 > 0.1 [t0; 1] [a0; a1; a1]", "lemma 3 > 0.1 [t0; 1] [a0; a1]", "axiom 3 > 0.1 [1; t0] [a0; a1]", "axiom 3 > 0.1 [t0; 1] []"},
		3: {"lemma 1 < - [0] [1]", "", "lemma 2 < - [0] [1]\nlemma 2 < - [0] [1]"}, 4: {"claim 1 = 1"}, 5: {"left 2", "right 3", "left 3\nclaim 1 = 1"},
	}
	p := mustProof(t, lines...)
	want(t, "the same", list(impl.SameProof(p, mustProof(t, lines...)), impl.SameProof(p, p)), list(true, true))
	for i, texts := range others {
		for _, text := range texts {
			changed := slices.Clone(lines)
			changed[i] = text
			q := mustProof(t, slices.DeleteFunc(changed, func(line string) bool { return line == "" })...)
			want(t, "another "+text, list(impl.SameProof(p, q), impl.SameProof(q, p), impl.SameProof(q, q)), list(false, false, true))
		}
	}
	for name, bad := range badProofs(t) {
		want(t, name, list(impl.SameProof(bad, bad), impl.SameProof(bad, p), impl.SameProof(p, bad)), list(true, false, false))
	}
	empty := impl.Proof{Claims: []impl.Claim{{Steps: []impl.ProofStep{{Path: []int64{}, Tests: []impl.Expr{}, Acts: []impl.Expr{}}}}}}
	want(t, "nil and empty", impl.SameProof(empty, impl.Proof{Claims: []impl.Claim{{Steps: []impl.ProofStep{{}}}}}), true)
	want(t, "nil and empty", impl.SameProof(impl.Proof{Claims: []impl.Claim{}}, impl.Proof{}), true)
	rule, ref := impl.Proof{Claims: []impl.Claim{{Rule: 7}}}, impl.Proof{Claims: []impl.Claim{{Ref: 7}}}
	want(t, "not valid", list(impl.SameProof(rule, rule), impl.SameProof(rule, ref), impl.SameProof(ref, impl.Proof{Claims: []impl.Claim{{}}})), list(true, false, false))
}

func TestReadProof(t *testing.T) {
	good := []string{
		"proof 0 0\n", "proof 3 4\n", "proof 1 2\nclaim a0 = 1\n", "proof 1 2\nclaim a0 = 1\nleft 39\nclaim 1 = 1\nright 0\n",
		"proof 1 2\nclaim 1 = 1\naxiom 0 > - [] []\naxiom 23 < 1 [t0] []\nlemma 0 > 0.0 [] [a0]\nlemma 39 < 0.1.0.1 [1; ~t0; 0] [(a0 + a1); a0*; 0; 1]\nclaim 0 = a0*\n",
		"proof 0 0\nclaim 1 = 1\naxiom 0 > " + strings.Repeat("0.", 39) + "1 [] []\n",
		"proof 0 1\n" + strings.Repeat("claim a0 = a0\n", 40), "proof 0 1\nclaim a0 = a0\n" + strings.Repeat("axiom 3 > - [] [a0]\n", 60),
	}
	for _, text := range good {
		p, code := impl.ReadProof(text)
		want(t, "read "+short(text), list(proofByTable(p), impl.ProofText(p), code, impl.ValidProof(p)), list(text, text, impl.OK, true))
	}
	p, _ := impl.ReadProof(good[4])
	steps := []impl.ProofStep{{}, {Use: 23, Back: true, Path: []int64{1}, Tests: []impl.Expr{test(0)}}, {Use: -1, Path: []int64{0, 0}, Acts: []impl.Expr{act(0)}},
		{Use: -40, Back: true, Path: []int64{0, 1, 0, 1}, Tests: []impl.Expr{one, tree(impl.ENot, test(0)), zero},
			Acts: []impl.Expr{tree(impl.ESum, act(0), act(1)), tree(impl.EStar, act(0)), zero, one}}}
	claims := []impl.Claim{{Left: one, Right: one, Rule: impl.ClSteps, Steps: steps}, {Left: zero, Right: tree(impl.EStar, act(0)), Rule: impl.ClSteps}}
	want(t, "fields", p, impl.Proof{Sig: sig12, Claims: claims})
	q, _ := impl.ReadProof(good[3])
	want(t, "fields of rules", q.Claims, []impl.Claim{{Left: act(0), Right: one, Rule: impl.ClLeft, Ref: 39}, {Left: one, Right: one, Rule: impl.ClRight}})
}

func TestReadProofErrors(t *testing.T) {
	start, step := "proof 1 2\nclaim 1 = 1\n", "axiom 3 > - [] [a0]\n"
	bad := []string{
		"", "proof", "proof 1", "proof 1 2", "proof 1 2\n\n", "proof 1  2\n", "proof  1 2\n", " proof 1 2\n", "proof 01 2\n", "proof 1 02\n", "proof 1 2 \n", "proof 4 1\n", "proof 1 5\n", "proof -1 1\n", "proof 1 2\r\n",
		"proof 999999999999999999 1\n", "proof 1 99999999999999999999999\n", "Proof 1 2\n", "claim 1 = 1\n", "proof 1 2\nclaim 1 = 1", "proof 1 2\nclaim 1 = 1 \n", "proof 1 2\nclaim  1 = 1\n", "proof 1 2\nclaim 1  = 1\n",
		"proof 1 2\nclaim 1 =  1\n", "proof 1 2\n claim 1 = 1\n", "proof 1 2\nclaim\n", "proof 1 2\nclaim 1\n", "proof 1 2\nclaim t1 = 1\n", "proof 1 2\nclaim 1 = a2\n", "proof 1 2\nclaim ~a0 = 1\n", "proof 1 2\n\nclaim 1 = 1\n",
		"proof 1 2\nleft 0\n", "proof 1 2\n" + step, start + "left 0", start + "left\n", start + "left 40\n", start + "right 40\n", start + "left 00\n", start + "right 01\n", start + "left -1\n", start + "left  0\n", start + "left 0 \n",
		start + "left 0\nleft 0\n", start + "left 0\nright 0\n", start + "left 0\n" + step, start + step + "right 0\n", start + "steps 0\n", start + "left 1000000000000000000000\n", start + "middle 0\n",
		start + step[:len(step)-1], start + step + "\n", start + step + " ", start + step + "x", start + " " + step, start + step + "proof 1 2\n",
		start + "axiom 24 > - [] []\n", start + "axiom -1 > - [] []\n", start + "axiom 03 > - [] []\n", start + "lemma 40 > - [] []\n", start + "lemma -1 > - [] []\n", start + "lemma 00 > - [] []\n", start + "lemma 999999999999999999 > - [] []\n",
		start + "axiom 3 - - [] []\n", start + "axiom 3 >  - [] []\n", start + "axiom  3 > - [] []\n", start + "axiom 3  > - [] []\n", start + "axiom 3> - [] []\n", start + "axiom 3 >- [] []\n", start + "axiom 3 = - [] []\n", start + "axiom > - [] []\n",
		start + "axiom 3 >  [] []\n", start + "axiom 3 > [] []\n", start + "axiom 3 > 2 [] []\n", start + "axiom 3 > 0.2 [] []\n", start + "axiom 3 > 00 [] []\n", start + "axiom 3 > 01 [] []\n", start + "axiom 3 > 0. [] []\n", start + "axiom 3 > .0 [] []\n",
		start + "axiom 3 > 0..1 [] []\n", start + "axiom 3 > 0.01 [] []\n", start + "axiom 3 > 0,1 [] []\n", start + "axiom 3 > -.0 [] []\n", start + "axiom 3 > 0.- [] []\n", start + "axiom 3 > -- [] []\n", start + "axiom 3 > " + strings.Repeat("0.", 40) + "0 [] []\n",
		start + "axiom 3 > - []\n", start + "axiom 3 > - [] \n", start + "axiom 3 > - []  []\n", start + "axiom 3 > -  [] []\n", start + "axiom 3 > - [][]\n", start + "axiom 3 > - [] [] \n", start + "axiom 3 > - [] [] []\n", start + "axiom 3 > - [ ] []\n",
		start + "axiom 3 > - [] [;]\n", start + "axiom 3 > - [] [a0;a1]\n", start + "axiom 3 > - [] [a0;  a1]\n", start + "axiom 3 > - [] [a0 ; a1]\n", start + "axiom 3 > - [] [a0; ]\n", start + "axiom 3 > - [] [; a0]\n", start + "axiom 3 > - [] [ a0]\n",
		start + "axiom 3 > - [] [a0 ]\n", start + "axiom 3 > - [] [a0\n", start + "axiom 3 > - [] a0\n", start + "axiom 3 > - [] [a2]\n", start + "axiom 3 > - [] [a00]\n", start + "axiom 3 > - [t1] []\n", start + "axiom 3 > - [a0] []\n", start + "axiom 3 > - [t0*] []\n",
		start + "axiom 3 > - [1; 1; 1; 1] []\n", start + "axiom 3 > - [] [1; 1; 1; 1; 1]\n", start + "axiom 3 > - [] [" + balanced(100, "a0", " ") + "**]\n", start + "axiom 3 > - [] [a0" + strings.Repeat("*", 40) + "]\n",
		"proof 1 2\n" + strings.Repeat("claim 1 = 1\n", 41), start + strings.Repeat(step, 61), "proof 1 2\nclaim " + balanced(100, "a0", " ") + "** = 1\n", "proof 1 2\nclaim 1 = a0" + strings.Repeat("*", 40) + "\n",
	}
	for _, text := range bad {
		p, code := impl.ReadProof(text)
		want(t, "read "+short(text), list(p, code), list(impl.Proof{}, impl.ErrSyntax))
	}
	for _, length := range []int{2000, 29_989, 29_999, 30_000, 30_001, 30_002, 35_000} {
		text := proofOfLength(length)
		p, code := impl.ReadProof(text)
		if length > 30_000 {
			want(t, "a long text", list(p, code), list(impl.Proof{}, impl.ErrRange))
			continue
		}
		want(t, "a long text", list(impl.ProofText(p), code), list(text, impl.OK))
		if length >= 29_989 {
			long := mustProof(t, proofOfLength(28_000)[:27_999])
			long.Claims = append(long.Claims, p.Claims[:3]...)
			want(t, "a text that is longer than can be read", impl.ProofText(long), proofByTable(long))
		}
	}
	for length, wanted := range map[int]int{29_999: impl.ErrSyntax, 30_000: impl.ErrSyntax, 30_001: impl.ErrRange, 900_000: impl.ErrRange} {
		for _, part := range []string{"~", "(", "proof 1 1\n", "x", "\n"} {
			p, code := impl.ReadProof(strings.Repeat(part, length)[:length])
			want(t, "long text of "+part, list(p, code), list(impl.Proof{}, wanted))
			p, code = impl.ReadProof(("proof 1 1\nclaim " + strings.Repeat(part, length))[:length])
			want(t, "long text of "+part, list(p, code), list(impl.Proof{}, wanted))
		}
	}
}

// proofOfLength is the text of a valid proof that has this length.
func proofOfLength(length int) string {
	text, step := "proof 0 0\n", "axiom 3 > - [] []\n"
	for length-len(text) > 1300 {
		text += "claim 1 = 1\n" + strings.Repeat(step, 60)
	}
	steps := 0
	for length-len(text)-len("claim 1 = 1\n")-steps*len(step) > 30 {
		steps++
	}
	nots := strings.Repeat("~", length-len(text)-len("claim 1 = 1\n")-steps*len(step))
	return text + "claim 1 = " + nots + "1\n" + strings.Repeat(step, steps)
}

// TestChangedTexts: a text that has been changed somewhere is refused, or it is
// the text of what is read.
func TestChangedTexts(t *testing.T) {
	r := rand.New(rand.NewSource(64))
	alphabet := " \n[];.<>-+=~*()01234ta"
	parts := []string{"claim ", "axiom ", "lemma ", "left 0\n", "right 0\n", " = ", "; ", "[]", "0.", "\n", " > ", " < ", "- "}
	read, p := 0, impl.Proof{}
	for i := range 12_000 {
		if i%8 == 0 {
			p = randomProof(r, 1+i%3)
		}
		text := proofByTable(impl.Proof{Sig: p.Sig, Claims: p.Claims[max(0, len(p.Claims)-3):]})
		at := r.Intn(len(text))
		switch i % 4 {
		case 0:
			text = text[:at] + text[at+1:]
		case 1:
			text = text[:at] + string(alphabet[r.Intn(len(alphabet))]) + text[at+1:]
		case 2:
			text = text[:at] + string(alphabet[r.Intn(len(alphabet))]) + text[at:]
		case 3:
			text = text[:at] + parts[r.Intn(len(parts))] + text[at:]
		}
		q, code := impl.ReadProof(text)
		if code != impl.OK {
			want(t, "no proof", list(q, code), list(impl.Proof{}, impl.ErrSyntax))
			continue
		}
		read++
		want(t, "text of what is read", list(impl.ProofText(q), proofByTable(q)), list(text, text))
	}
	if read < 500 {
		t.Errorf("only %d texts are read", read)
	}
}

// stepCase is a step and what it makes of an expression, or its error.
type stepCase struct {
	k      int64
	e      string
	step   string
	result string
}

// stepCases are steps of a proof with the claims of TestApplyStep.
var stepCases = []stepCase{
	{0, "a0", "axiom 2 < - [] [a0]", "(a0 + 0)"}, {0, "(a0 + 0)", "axiom 2 > - [] [a0]", "a0"}, {0, "((a0 + 0) a1)", "axiom 2 > 0 [] [a0]", "(a0 a1)"},
	{0, "(t0 (a1 + t0))", "axiom 7 > - [] [t0; a1; t0]", "((t0 a1) + (t0 t0))"}, {0, "((t0 a1) + (t0 t0))", "axiom 7 < - [] [t0; a1; t0]", "(t0 (a1 + t0))"},
	{0, "(a0 + a1)", "axiom 1 > - [] [a0; a1]", "(a1 + a0)"}, {0, "(a0 + a1)", "axiom 1 < - [] [a1; a0]", "(a1 + a0)"}, {0, "(a0 + a1)", "axiom 1 < - [] [a0; a1]", "notfound"},
	{0, "~~t0", "axiom 17 > - [t0] []", "t0"}, {0, "~~t0*", "axiom 17 > 0 [t0] []", "t0*"}, {0, "1", "axiom 15 < - [~t0] []", "(~t0 + ~~t0)"}, {0, "1", "axiom 22 < - [0] []", "(0 + 1)"},
	{0, "0", "axiom 9 < - [] [a1*]", "(0 a1*)"}, {0, "0", "axiom 16 < - [(t0 1)] []", "((t0 1) ~(t0 1))"},
	// The claims of the proof: only those before can be used.
	{1, "(t0 (a0 0))", "lemma 0 > 1 [] [a0]", "(t0 0)"}, {3, "(t0 (a0 0))", "lemma 0 > 1 [] [a0]", "(t0 0)"}, {0, "(t0 (a0 0))", "lemma 0 > 1 [] [a0]", "range"},
	{2, "a1*", "lemma 1 < - [] [a1]", "(1 + a1*)"}, {1, "a1*", "lemma 1 < - [] [a1]", "range"}, {3, "~t0", "lemma 2 > - [1; t0] [1]", "(~t0 + (0 1))"},
	{2, "~t0", "lemma 2 > - [1; t0] [1]", "range"}, {3, "~t0", "lemma 3 > - [] []", "range"}, {3, "~t0", "lemma 39 > - [] []", "range"}, {4, "a0", "axiom 2 < - [] [a0]", "range"}, {-1, "a0", "axiom 2 < - [] [a0]", "range"},
	{1 << 62, "a0", "axiom 2 < - [] [a0]", "range"}, {-1 << 63, "a0", "axiom 2 < - [] [a0]", "range"}, {3, "a0", "axiom 2 < - [] [a0]", "(a0 + 0)"},
	// Lists that are full for one side alone, too short or too long.
	{0, "0", "axiom 9 < - [] []", "range"}, {0, "(0 a0)", "axiom 9 > - [] []", "range"}, {0, "(0 a0)", "axiom 9 > - [] [a0; a0]", "range"}, {0, "(0 a0)", "axiom 9 > - [1] [a0]", "range"}, {0, "(0 a0)", "axiom 9 > - [] [a0]", "0"},
	{0, "1", "axiom 15 < - [] []", "range"}, {0, "1", "axiom 15 < - [t0; t0] []", "range"}, {0, "1", "axiom 15 < - [t0] [1]", "range"}, {0, "1", "axiom 20 < - [] []", "~0"}, {0, "1", "axiom 20 < - [1] []", "range"}, {0, "1", "axiom 20 < - [] [1]", "range"},
	{0, "(a0 + a1)", "axiom 1 > - [] [a0]", "range"}, {0, "(a0 + a1)", "axiom 1 > - [] [a0; a1; a0]", "range"}, {0, "(t0 t0)", "axiom 14 > - [t0] []", "range"}, {0, "(t0 t0)", "axiom 14 > - [t0; t0; t0] []", "range"},
	{0, "(t0 + (t0 t0))", "axiom 23 < - [t0; t0] []", "range"}, {0, "(t0 + (t0 t0))", "axiom 23 < - [t0; t0; t0] []", "((t0 + t0) (t0 + t0))"},
	// The claim 2 has the test 1 on both sides, and the action 0 on one of them.
	{3, "~t0", "lemma 2 > - [1; t0] []", "range"}, {3, "~t0", "lemma 2 > - [t0] [1]", "range"}, {3, "~t0", "lemma 2 > - [1; t0] [1; 1]", "range"}, {3, "~t0", "lemma 2 > - [1; t0; 1] [1]", "range"}, {3, "~t0", "lemma 2 > - [0; t0] [a1*]", "(~t0 + (0 a1*))"}, {3, "~t0", "lemma 2 > - [] []", "range"},
	{3, "(~t0 + (0 a1))", "lemma 2 < - [0; t0] [a1]", "~t0"}, {3, "(~t0 + (0 a1))", "lemma 2 < - [t1; t0] [a1]", "~t0"}, {3, "(~t0 + (0 a1))", "lemma 2 < - [0; t0] [a0]", "notfound"}, {3, "(~t0 + (0 a1))", "lemma 2 < - [0; t0] []", "range"},
	// Paths.
	{0, "(a0 + 0)", "axiom 2 > 0 [] [a0]", "notfound"}, {0, "(a0 + 0)", "axiom 2 > 0.0 [] [a0]", "range"}, {0, "(a0 + 0)*", "axiom 2 > 1 [] [a0]", "range"}, {0, "(a0 + 0)*", "axiom 2 > 0 [] [a0]", "a0*"}, {0, "a0", "axiom 2 < 0 [] [a0]", "range"},
	// What is not the node.
	{0, "(a0 + 0)", "axiom 2 > - [] [a1]", "notfound"}, {0, "(0 + a0)", "axiom 2 > - [] [a0]", "notfound"}, {0, "(a1 + a1)", "axiom 3 > - [] [a0]", "notfound"}, {0, "a0", "axiom 3 < - [] [a1]", "notfound"}, {0, "a0", "axiom 3 > - [] [a0]", "notfound"},
	// Below a negation there are conditions alone.
	{0, "~0", "axiom 9 < 0 [] [t0]", "~(0 t0)"}, {0, "~0", "axiom 9 < 0 [] [a0]", "state"}, {0, "~0", "axiom 9 < 0 [] [1*]", "state"}, {0, "~(t0 + ~0)", "axiom 10 < 0.1.0 [] [a1]", "state"}, {0, "~(t0 + ~0)", "axiom 10 < 0.1.0 [] [~t0]", "~(t0 + ~(~t0 0))"},
	{0, "(0 ~0)", "axiom 9 < 0 [] [a0]", "((0 a0) ~0)"}, {0, "(0 ~0)", "axiom 9 < 1.0 [] [a0]", "state"}, {0, "~(0 t0)", "axiom 9 > 0 [] [t0]", "~0"}, {1, "~0", "lemma 0 < 0 [] [a0]", "state"}, {1, "~0", "lemma 0 < 0 [] [t0]", "~(t0 0)"},
	{3, "~(~t0 + (0 t1))", "lemma 2 < 0 [0; t0] [t1]", "~~t0"}, {3, "~~t0", "lemma 2 > 0 [0; t0] [t1]", "~(~t0 + (0 t1))"}, {3, "~~t0", "lemma 2 > 0 [0; t0] [a1]", "state"}, {3, "~t0", "lemma 2 > - [0; t0] [a1]", "(~t0 + (0 a1))"}, {0, "~1", "axiom 9 < 0 [] [a0]", "notfound"},
}

// stepProof is a proof whose claims 1 and 2 are not shown, which does not matter
// for the steps that use them.
func stepProof(t *testing.T) impl.Proof {
	t.Helper()
	return mustProof(t, "proof 2 2", "claim (a0 0) = 0", "axiom 10 > - [] [a0]", "claim (1 + a0*) = a0*", "claim ~t1 = (~t1 + (0 a0))")
}

// TestApplyStep: the steps of the table, each by the definition, too.
func TestApplyStep(t *testing.T) {
	p := stepProof(t)
	for _, c := range stepCases {
		e, s := mustExpr(t, p.Sig, c.e), mustStep(t, p.Sig, c.step)
		x, code := impl.ApplyStep(p, c.k, e, s)
		want(t, c.e+" by "+c.step+" of the claim "+digit(c.k), textOrName(x, code), c.result)
		y, second := stepCode(p, c.k, e, s)
		want(t, "by the definition: "+c.e+" by "+c.step, list(textIf(y, int64(second)), second), list(textIf(x, code), code))
	}
}

// TestApplyStepLimits: limits that are reached and exceeded by one, and which
// of two errors comes first.
func TestApplyStepLimits(t *testing.T) {
	p, half, more := stepProof(t), balanced(50, "a0", " "), balanced(50, "a0", " ")+"*"
	stars := func(depth int) string { return "a0" + strings.Repeat("*", depth-1) }
	wide := func(leaf string) string { return "(" + balanced(98, "a0", " ") + " " + leaf + ")" } // 196 nodes and the leaf
	notWide := func(leaf string) string { return "~(" + balanced(98, "t0", " + ") + " " + leaf + ")" }
	rows := []struct {
		name, e, step string
		code          int
	}{
		{"199 nodes of a side", half, "axiom 3 < - [] [" + half + "]", impl.OK}, {"201 nodes of a side", more, "axiom 3 < - [] [" + more + "]", impl.ErrLimit},
		{"200 nodes of a side", "(" + half + " + 0)", "axiom 1 > - [] [" + half + "; 0]", impl.OK},
		{"200 nodes in all", "(" + half + " + " + more + ")", "axiom 1 > - [] [" + half + "; " + more + "]", impl.OK},
		{"201 nodes that are not there", "(a0 + a0)", "axiom 1 > - [] [" + more + "; " + more + "]", impl.ErrLimit},
		{"201 nodes of the side that is there", more, "axiom 3 > - [] [" + more + "]", impl.ErrLimit}, {"201 nodes of the side that is not there", "a0", "axiom 3 < - [] [" + more + "]", impl.ErrLimit},
		{"both sides of 201 nodes", "1", "axiom 0 < - [] [a0; " + more + "; " + more + "]", impl.ErrLimit},
		{"a side that is 40 deep", stars(38), "axiom 11 > - [] [" + stars(37) + "]", impl.ErrNotFound}, {"a side that is 40 deep", stars(38), "axiom 11 < - [] [" + stars(37) + "]", impl.OK},
		{"a side that is 41 deep", stars(39), "axiom 11 < - [] [" + stars(38) + "]", impl.ErrLimit}, {"a side that is 41 deep", "a0", "axiom 11 > - [] [" + stars(38) + "]", impl.ErrLimit},
		{"a result of 200 nodes", wide("1") + "**", "axiom 20 < 0.0.1 [] []", impl.OK}, {"a result of 201 nodes", wide("1") + "***", "axiom 20 < 0.0.0.1 [] []", impl.ErrLimit},
		{"a result of 199 nodes", wide("1"), "axiom 2 < 1 [] [1]", impl.OK}, {"a result of 200 nodes", wide("1") + "*", "axiom 2 < 0.1 [] [1]", impl.OK}, {"a result of 201 nodes", wide("1") + "**", "axiom 2 < 0.0.1 [] [1]", impl.ErrLimit},
		{"a result that is 40 deep", stars(39), "axiom 6 < " + strings.Repeat("0.", 37) + "0 [] [a0]", impl.OK}, {"a result that is 41 deep", stars(40), "axiom 6 < " + strings.Repeat("0.", 38) + "0 [] [a0]", impl.ErrLimit},
		{"a result that is 40 deep", stars(39), "axiom 6 < - [] [" + stars(39) + "]", impl.OK}, {"a side that is 41 deep", stars(40), "axiom 6 < - [] [" + stars(40) + "]", impl.ErrLimit},
		{"lists before limits of a side", more, "axiom 3 < - [1] [" + more + "]", impl.ErrRange}, {"a path before limits of a side", more, "axiom 3 < 1 [] [" + more + "]", impl.ErrRange},
		{"a use before limits of a side", more, "lemma 3 < - [] [" + more + "]", impl.ErrRange}, {"limits of a side before another node", "1", "axiom 3 < - [] [" + more + "]", impl.ErrLimit},
		{"limits of a side before negation", "~0", "axiom 9 < 0 [] [" + stars(40) + "]", impl.ErrLimit}, {"another node before negation", "~1", "axiom 9 < 0 [] [a0]", impl.ErrNotFound},
		{"another node before limits of the result", wide("1") + "**", "axiom 2 < 0.0.1 [] [a0]", impl.ErrNotFound},
		{"200 nodes below a negation", notWide("0"), "axiom 9 < 0.1 [] [1]", impl.OK}, {"201 nodes below a negation", notWide("0"), "axiom 9 < 0.1 [] [~1]", impl.ErrLimit},
		{"negation before limits of the result", notWide("0"), "axiom 9 < 0.1 [] [a0*]", impl.ErrState}, {"another node before negation and limits", notWide("1"), "axiom 9 < 0.1 [] [a0*]", impl.ErrNotFound},
	}
	for _, r := range rows {
		e, s := mustExpr(t, p.Sig, r.e), mustStep(t, p.Sig, r.step)
		x, code := impl.ApplyStep(p, 3, e, s)
		y, second := stepCode(p, 3, e, s)
		want(t, r.name, list(textIf(x, code), code), list(textIf(y, int64(second)), r.code))
		if code != impl.OK {
			want(t, "nothing for "+r.name, x, impl.Expr{})
		}
	}
}

func TestApplyStepErrors(t *testing.T) {
	p := stepProof(t)
	good := impl.ProofStep{Use: 2, Back: true, Acts: []impl.Expr{act(0)}}
	refused := func(name string, p impl.Proof, k int64, e impl.Expr, s impl.ProofStep) {
		t.Helper()
		x, code := impl.ApplyStep(p, k, e, s)
		want(t, name, list(x, code), list(impl.Expr{}, impl.ErrInvalid))
	}
	for name, bad := range badProofs(t) {
		refused("proof: "+name, bad, 0, act(0), good)
		refused("proof and k: "+name, bad, -1, act(0), good)
	}
	for name, e := range badExprs() {
		refused("expression: "+name, p, 0, e, good)
		refused("expression and k: "+name, p, 99, e, good)
		refused("test: "+name, p, 0, act(0), impl.ProofStep{Use: 13, Tests: []impl.Expr{e}})
		refused("action: "+name, p, 0, act(0), impl.ProofStep{Use: 2, Back: true, Acts: []impl.Expr{e}})
		refused("action behind the first: "+name, p, -7, act(0), impl.ProofStep{Use: 2, Back: true, Acts: []impl.Expr{act(0), e}})
	}
	for _, use := range []int64{-1 << 63, -41, 24, 1<<63 - 1} {
		refused("Use", p, 0, act(0), impl.ProofStep{Use: use, Back: true, Acts: []impl.Expr{act(0)}})
	}
	for _, i := range []int64{-1 << 63, -1, 2, 1<<63 - 1} {
		refused("path", p, 0, act(0), impl.ProofStep{Use: 2, Back: true, Path: []int64{i}, Acts: []impl.Expr{act(0)}})
	}
	refused("path", p, 0, act(0), impl.ProofStep{Use: 2, Back: true, Path: make([]int64, 41), Acts: []impl.Expr{act(0)}})
	refused("tests", p, 0, act(0), impl.ProofStep{Use: 2, Back: true, Tests: []impl.Expr{one, one, one, one}, Acts: []impl.Expr{act(0)}})
	refused("acts", p, 0, act(0), impl.ProofStep{Use: 2, Back: true, Acts: []impl.Expr{one, one, one, one, one}})
	refused("no condition", p, 0, test(0), impl.ProofStep{Use: 17, Back: true, Tests: []impl.Expr{act(0)}})
	_, first := impl.ApplyStep(p, 0, act(0), impl.ProofStep{Use: -40, Back: true, Path: make([]int64, 40), Tests: []impl.Expr{one, one, one}, Acts: []impl.Expr{one, one, one, one}})
	want(t, "all limits of a step", first, impl.ErrRange)
}

// TestCheckProof: proofs and how many of their claims are shown.
func TestCheckProof(t *testing.T) {
	premise, rightPremise := "claim (a0 + (a0* a0)) = a0", "claim (a0 + (a0 a0*)) = a0"
	rows := []struct {
		name  string
		lines string // behind the first line
		shown int64
		code  int
	}{
		{"no claims", "", 0, impl.OK},
		{"both sides are equal", "claim a0 = a0", 1, impl.OK}, {"both sides differ", "claim a0 = (a0 + 0)", 0, impl.ErrProof},
		{"a step", "claim (a0 + 0) = a0|axiom 2 > - [] [a0]", 1, impl.OK}, {"a step back", "claim a0 = (a0 + 0)|axiom 2 < - [] [a0]", 1, impl.OK},
		{"a step the other way round", "claim a0 = (a0 + 0)|axiom 2 > - [] [a0]", 0, impl.ErrProof}, {"a step to another end", "claim (a0 + 0) = a1|axiom 2 > - [] [a0]", 0, impl.ErrProof},
		{"a step too many", "claim (a0 + 0) = a0|axiom 2 > - [] [a0]|axiom 2 < - [] [a0]", 0, impl.ErrProof}, {"steps there and back", "claim a0 = a0|axiom 2 < - [] [a0]|axiom 2 > - [] [a0]", 1, impl.OK},
		{"steps in the wrong order", "claim a0 = a0|axiom 2 > - [] [a0]|axiom 2 < - [] [a0]", 0, impl.ErrProof},
		{"a claim before", "claim (0 + a0) = a0|axiom 1 > - [] [0; a0]|axiom 2 > - [] [a0]|claim (0 + (0 + a1)) = a1|lemma 0 > - [] [(0 + a1)]|lemma 0 > - [] [a1]", 2, impl.OK},
		{"a claim before, back", "claim (0 + a0) = a0|axiom 1 > - [] [0; a0]|axiom 2 > - [] [a0]|claim t0* = (0 + t0)*|lemma 0 < 0 [] [t0]", 2, impl.OK},
		{"the claim itself", "claim a0 = a0|claim (0 + a0) = a0|lemma 1 > - [] [a0]", 1, impl.ErrProof}, {"the claim itself, the first one", "claim (0 + a0) = a0|lemma 0 > - [] [a0]", 0, impl.ErrProof},
		{"a later claim", "claim (a0 + 0) = a0|lemma 1 > - [] [a0]|claim (a0 + 0) = a0|axiom 2 > - [] [a0]", 0, impl.ErrProof}, {"no claim", "claim (a0 + 0) = a0|lemma 39 > - [] [a0]", 0, impl.ErrProof},
		{"the second one is not shown", "claim 1 = 1|claim 1 = 0|claim 1 = 1", 1, impl.ErrProof}, {"two are not shown", "claim 1 = 1|claim 1 = 1|claim 0 = 1|claim 1 = 0", 2, impl.ErrProof},
		{"the last one is not shown", "claim 1 = 1|claim 1 = 1|claim 0 = 1", 2, impl.ErrProof}, {"a claim that is not shown is used", "claim 1 = 0|claim 1 = 0|lemma 0 > - [] []", 0, impl.ErrProof},
		{"lists that are not full", "claim (a0 + 0) = a0|axiom 2 > - [1] [a0]", 0, impl.ErrProof}, {"below a negation", "claim ~0 = ~0|axiom 9 < 0 [] [a0]|axiom 9 > 0 [] [a0]", 0, impl.ErrProof},
		{"below a negation, a condition", "claim ~0 = ~0|axiom 9 < 0 [] [t0]|axiom 9 > 0 [] [t0]", 1, impl.OK},
		{"a loop, p, q and r are equal", "claim ((a0* + (a0* a0*)) + a0*) = a0*|left 0", 0, impl.ErrProof},
		{"a premise alone", premise + "|left 0", 0, impl.ErrProof}, {"a premise alone", rightPremise + "|right 0", 0, impl.ErrProof},
	}
	for _, r := range rows {
		lines := []string{"proof 1 2"}
		if r.lines != "" {
			lines = append(lines, strings.Split(r.lines, "|")...)
		}
		shown, code := impl.CheckProof(mustProof(t, lines...))
		want(t, r.name, list(shown, code), list(r.shown, r.code))
	}
	full := strings.Repeat("axiom 2 < - [] [a0]\naxiom 2 > - [] [a0]\n", 30)
	text := "proof 1 2\n" + strings.Repeat("claim a0 = a0\n"+full, 20) + strings.Repeat("claim a0 = a0\n", 20)
	shown, code := impl.CheckProof(mustProof(t, text[:len(text)-1]))
	want(t, "40 claims", list(shown, code), list(40, impl.OK))
}

// TestLoops: ClLeft and ClRight, whose claim before has the form or not.
func TestLoops(t *testing.T) {
	before := []string{
		"claim ((a1 + (0 a1)) + a1) = a1", "axiom 9 > 0.1 [] [a1]", "axiom 2 > 0 [] [a1]", "axiom 3 > - [] [a1]",
		"claim ((a1 + (a1 0)) + a1) = a1", "axiom 10 > 0.1 [] [a1]", "axiom 2 > 0 [] [a1]", "axiom 3 > - [] [a1]",
		"claim ((0 + (1 a0)) + a0) = a0", "axiom 5 > 0.1 [] [a0]", "axiom 1 > 0 [] [0; a0]", "axiom 2 > 0 [] [a0]", "axiom 3 > - [] [a0]",
		"claim ((0 + (a0 1)) + a0) = a0", "axiom 6 > 0.1 [] [a0]", "axiom 1 > 0 [] [0; a0]", "axiom 2 > 0 [] [a0]", "axiom 3 > - [] [a0]",
		"claim ((a1 + (0 a1)) + a0) = ((a1 + (0 a1)) + a0)", "claim ((a1 (0 a1)) + a1) = ((a1 (0 a1)) + a1)",
		"claim ((t0 + (t0 t0)) + t0) = t0", "axiom 13 > 0.1 [t0] []", "axiom 3 > 0 [] [t0]", "axiom 3 > - [] [t0]",
	}
	p := mustProof(t, append([]string{"proof 1 2"}, before...)...)
	shown, code := impl.CheckProof(p)
	want(t, "the claims before", list(shown, code), list(7, impl.OK))
	rows := []struct {
		claim, rule string
		code        int
	}{
		{"((0* a1) + a1) = a1", "left 0", impl.OK}, {"((a1 0*) + a1) = a1", "right 1", impl.OK}, {"((1* 0) + a0) = a0", "left 2", impl.OK}, {"((0 1*) + a0) = a0", "right 3", impl.OK},
		{"((t0* t0) + t0) = t0", "left 6", impl.OK}, {"((t0 t0*) + t0) = t0", "right 6", impl.OK},
		{"((0* a1) + a1) = a1", "right 0", impl.ErrProof}, {"((a1 0*) + a1) = a1", "left 1", impl.ErrProof}, {"((0* a1) + a1) = a1", "left 1", impl.ErrProof}, {"((a1 0*) + a1) = a1", "right 0", impl.ErrProof},
		{"((0* a1) + a1) = a1", "right 1", impl.ErrProof}, {"((a1 0*) + a1) = a1", "left 0", impl.ErrProof}, {"((0 1*) + a0) = a0", "right 2", impl.ErrProof}, {"((1* 0) + a0) = a0", "left 3", impl.ErrProof},
		{"((0* a0) + a1) = a1", "left 0", impl.ErrProof}, {"((1* a1) + a1) = a1", "left 0", impl.ErrProof}, {"((0* a1) + a0) = a1", "left 0", impl.ErrProof}, {"((0* a1) + a1) = a0", "left 0", impl.ErrProof}, {"((0* a1) + a0) = a0", "left 0", impl.ErrProof},
		{"((0* a1) + a1) = a1", "left 2", impl.ErrProof}, {"((0* a1) + a1) = a1", "left 4", impl.ErrProof}, {"((0* a1) + a0) = a0", "left 4", impl.ErrProof}, {"((0* a1) + a0) = ((a1 + (0 a1)) + a0)", "left 4", impl.ErrProof}, {"((0* a1) + a1) = a1", "left 5", impl.ErrProof},
		{"((0 a1) + a1) = a1", "left 0", impl.ErrProof}, {"((0* + a1) + a1) = a1", "left 0", impl.ErrProof}, {"((0* a1) a1) = a1", "left 0", impl.ErrProof}, {"(a1 + (0* a1)) = a1", "left 0", impl.ErrProof}, {"a1 = ((0* a1) + a1)", "left 0", impl.ErrProof},
		{"((a1* 0) + a1) = a1", "left 0", impl.ErrProof}, {"a1 = a1", "left 0", impl.ErrProof}, {"((a1 + (0 a1)) + a1) = a1", "left 0", impl.ErrProof}, {"((0** a1) + a1) = a1", "left 0", impl.ErrProof}, {"((a1 0) + a1) = a1", "right 1", impl.ErrProof}, {"((1 0*) + a1) = a1", "right 1", impl.ErrProof},
		{"((0* a1) + a1) = a1", "left 7", impl.ErrProof}, {"((0* a1) + a1) = a1", "left 8", impl.ErrProof}, {"((0* a1) + a1) = a1", "left 39", impl.ErrProof}, {"((a1 0*) + a1) = a1", "right 7", impl.ErrProof}, {"((a1 0*) + a1) = a1", "right 39", impl.ErrProof},
	}
	for _, r := range rows {
		q := mustProof(t, append(append([]string{"proof 1 2"}, before...), "claim "+r.claim, r.rule)...)
		shown, code := impl.CheckProof(q)
		want(t, r.claim+" by "+r.rule, list(shown, code), list(7+one01(r.code == impl.OK), r.code))
		expected, second := checkByTable(q)
		want(t, "by the table: "+r.claim+" by "+r.rule, list(shown, code), list(expected, second))
	}
	later := mustProof(t, "proof 1 2", "claim ((0* a1) + a1) = a1", "left 1", before[0], before[1], before[2], before[3])
	shown, code = impl.CheckProof(later)
	want(t, "a claim behind", list(shown, code), list(0, impl.ErrProof))
	itself := mustProof(t, "proof 1 2", "claim ((0* 0) + 0) = 0", "left 0")
	shown, code = impl.CheckProof(itself)
	want(t, "the claim itself", list(shown, code), list(0, impl.ErrProof))
}

// TestChangedProofs: proofs that have been changed somewhere are checked as the
// definition says, and what is shown is true.
func TestChangedProofs(t *testing.T) {
	r := rand.New(rand.NewSource(65))
	good, bad := 0, 0
	for i := range 2500 {
		p := randomProof(r, 2)
		if len(p.Claims) > 4 && i%3 > 0 { // the tables take time
			p.Claims = p.Claims[:4+r.Intn(len(p.Claims)-4)]
		}
		changeProof(r, p)
		shown, code := impl.CheckProof(p)
		expected, second := checkByTable(p)
		want(t, "changed "+proofByTable(p), list(shown, code), list(expected, second))
		good, bad = good+one01(code == impl.OK), bad+one01(code != impl.OK)
		for _, c := range p.Claims[:shown] {
			if same, code := impl.EqualExprs(p.Sig, c.Left, c.Right); code == impl.OK && !same {
				t.Errorf("%s = %s is shown", textOf(c.Left), textOf(c.Right))
			}
		}
	}
	if good < 300 || bad < 300 {
		t.Errorf("%d are good, %d are bad: too few", good, bad)
	}
}

// changeProof changes a step or a claim of its own memory, if there is any.
func changeProof(r *rand.Rand, p impl.Proof) {
	p.Claims = slices.Clone(p.Claims)
	if len(p.Claims) == 0 {
		return
	}
	c := &p.Claims[r.Intn(len(p.Claims))]
	if len(c.Steps) == 0 {
		c.Ref = min(c.Ref, 1)
		return
	}
	i := r.Intn(len(c.Steps))
	s := &c.Steps[i]
	switch r.Intn(10) {
	case 0:
		s.Back = !s.Back
	case 1:
		s.Use = int64(r.Intn(44) - 20)
	case 2:
		s.Path = append(slices.Clone(s.Path), int64(r.Intn(2)))
	case 3:
		s.Path = s.Path[:len(s.Path)/2]
	case 4:
		s.Acts = append(slices.Clone(s.Acts), act(0))[:min(len(s.Acts)+1, 4)]
	case 5:
		s.Acts = s.Acts[:len(s.Acts)/2]
	case 6:
		c.Left, c.Right = c.Right, c.Left
	case 7:
		c.Steps = slices.Delete(slices.Clone(c.Steps), i, i+1)
	case 8:
		s.Tests = append(slices.Clone(s.Tests), test(0))[:min(len(s.Tests)+1, 3)]
	}
}

// TestAxiomsHold: both sides of each instance of an axiom have the same words.
func TestAxiomsHold(t *testing.T) {
	r := rand.New(rand.NewSource(66))
	checked := 0
	for i := range 1200 {
		g := []impl.Sig{sig11, sig12, {Tests: 2, Actions: 1}, {Actions: 2}, {Tests: 2}, sig00}[i%6]
		q := impl.Axioms()[i%24]
		tests, acts := partsFor(r, g, 1+i%3)
		left, first := impl.Substitute(g, q.Left, tests, acts)
		right, second := impl.Substitute(g, q.Right, tests, acts)
		want(t, "codes of "+textOf(left), list(first, second), list(impl.OK, impl.OK))
		same, code := impl.EqualExprs(g, left, right)
		if code == impl.OK {
			checked++
			want(t, textOf(left)+" = "+textOf(right), same, true)
		}
	}
	if checked < 1000 {
		t.Errorf("only %d are checked", checked)
	}
}

// TestClaimsHold: both sides of each claim that is shown, and of its instances,
// have the same words.
func TestClaimsHold(t *testing.T) {
	r := rand.New(rand.NewSource(67))
	proofs := []impl.Proof{impl.StandardProof()}
	for range 60 {
		p := randomProof(r, 3)
		shown, code := impl.CheckProof(p)
		want(t, "random proof", list(shown, code), list(len(p.Claims), impl.OK))
		proofs = append(proofs, p)
	}
	checked := 0
	for n, p := range proofs {
		for _, c := range p.Claims {
			same, code := impl.EqualExprs(p.Sig, c.Left, c.Right)
			want(t, textOf(c.Left)+" = "+textOf(c.Right), same || code == impl.ErrLimit, true)
			for i := range 6 {
				g := []impl.Sig{sig12, {Actions: 2}, {Tests: 2}}[(i+n)%3]
				tests, acts := partsFor(r, g, 1+i%3)
				left, first := impl.Substitute(g, c.Left, tests, acts)
				right, second := impl.Substitute(g, c.Right, tests, acts)
				if first != impl.OK || second != impl.OK {
					continue
				}
				same, code := impl.EqualExprs(g, left, right)
				if code == impl.OK {
					checked++
					want(t, textOf(left)+" = "+textOf(right), same, true)
				}
			}
		}
	}
	if checked < 1000 {
		t.Errorf("only %d are checked", checked)
	}
}

// TestRandomSteps: steps of all kinds make what the definition says.
func TestRandomSteps(t *testing.T) {
	r := rand.New(rand.NewSource(68))
	codes := map[int64]int{}
	for range 6000 {
		p := randomProof(r, 1)
		e := randomExpr(r, p.Sig, 1+r.Intn(3))
		s, ok := randomMove(r, p, e)
		if !ok {
			continue
		}
		c := impl.Proof{Sig: p.Sig, Claims: []impl.Claim{{Left: e, Right: e, Rule: impl.ClSteps, Steps: []impl.ProofStep{s}}}}
		if r.Intn(2) == 0 {
			changeProof(r, c)
		}
		if r.Intn(5) == 0 && len(c.Claims[0].Steps) > 0 && len(c.Claims[0].Steps[0].Acts) > 0 {
			c.Claims[0].Steps[0].Acts[0] = randomExpr(r, p.Sig, 2)
		}
		for _, s := range c.Claims[0].Steps {
			k := int64(r.Intn(len(p.Claims)+3) - 1)
			x, code := impl.ApplyStep(p, k, e, s)
			y, expected := stepCode(p, k, e, s)
			want(t, textOf(e)+" by "+stepText(s), list(textIf(x, code), code), list(textIf(y, int64(expected)), expected))
			codes[code]++
			if code != impl.OK {
				continue
			}
			s.Back = !s.Back
			back, code := impl.ApplyStep(p, k, x, s)
			want(t, "back from "+textOf(x)+" by "+stepText(s), list(textOf(back), code), list(textOf(e), impl.OK))
		}
	}
	if codes[impl.OK] < 500 || codes[impl.ErrRange] < 500 || codes[impl.ErrNotFound] < 100 {
		t.Errorf("too few of some codes: %v", codes)
	}
}
