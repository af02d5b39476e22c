package tests

import (
	"fmt"
	"math/rand"
	"slices"
	"strings"
	"testing"

	"loop.example/g01101/impl"
)

// This file tests programs, their texts and their expressions: promise 14.

func TestProgramConstants(t *testing.T) {
	want(t, "limits", list(impl.MaxProg, impl.MaxProgDepth, impl.MaxProgText, impl.MaxWorld, impl.MaxFuel, impl.MaxFlow), "[60 20 6000 12 500 60]")
	want(t, "kinds", list(impl.PSkip, impl.PFail, impl.PAct, impl.PAssert, impl.PSeq, impl.PIf, impl.PWhile, impl.FAct, impl.FTest, impl.FHalt, impl.FFail), "[1 2 3 4 5 6 7 1 2 3 4]")
	want(t, "rules", list(impl.TrUnroll, impl.TrRoll, impl.TrSame, impl.TrSwap, impl.TrRight, impl.TrLeft, impl.TrSkip, impl.TrPush, impl.TrPull, impl.TrFuse, impl.TrTwice, impl.TrAssert, impl.TrDead, impl.TrHead),
		"[1 2 3 4 5 6 7 8 9 10 11 12 13 14]")
}

// goodProgs are valid for 2 tests and 2 actions, with as many nodes and levels
// as may be, and with conditions that are as large and as deep.
func goodProgs(t *testing.T) []impl.Prog {
	large, deep := tree(impl.ENot, mustExpr(t, sig22, balanced(100, "t1", " "))), nested(impl.ENot, 39, test(0))
	return []impl.Prog{
		skip, failing, do(0), do(1), assert(zero), assert(test(1)), assert(large), seq(skip, failing), ifThen(test(0), do(0), do(1)), while(one, skip),
		loops(19, skip), seq(loops(18, do(1)), loops(18, skip)), evenly(30, assert(large)), while(deep, evenly(30, do(0))), ifThen(deep, evenly(15, do(0)), while(large, evenly(14, failing))),
		{Kind: impl.PSkip, Kids: []impl.Prog{}, Cond: impl.Expr{Kids: []impl.Expr{}}}, {Kind: impl.PAct, Kids: make([]impl.Prog, 0, 2)},
	}
}

func TestValidProg(t *testing.T) {
	for name, p := range badProgs() {
		want(t, name, list(impl.ValidProg(sig22, p), impl.ProgText(sig22, p)), list(false, ""))
	}
	for _, p := range goodProgs(t) {
		want(t, "a good one", list(impl.ValidProg(sig22, p), impl.ProgText(sig22, p)), list(true, progByTable(p)))
		for _, g := range badSigs {
			want(t, "a bad signature", list(impl.ValidProg(g, p), impl.ProgText(g, p)), list(false, ""))
		}
	}
	want(t, "sizes", list(len(progPlaces(evenly(30, skip), nil)), len(progPlaces(while(one, evenly(30, skip)), nil)), len(progPlaces(evenly(31, skip), nil))), "[59 60 61]")
	want(t, "numbers and signatures", list(impl.ValidProg(sig00, skip), impl.ValidProg(sig00, do(0)), impl.ValidProg(sig00, assert(test(0))), impl.ValidProg(sig01, do(0)),
		impl.ValidProg(sig01, while(test(0), do(0))), impl.ValidProg(sig34, ifThen(test(2), do(3), do(4))), impl.ValidProg(sig34, ifThen(test(2), do(3), do(3)))),
		"[true false false true false false true]")
}

func TestSameProg(t *testing.T) {
	others := badProgs()
	for i, p := range goodProgs(t)[:15] {
		others["good "+digit(int64(i))] = p
	}
	printed := map[string]string{}
	for name, p := range others {
		printed[name] = fmt.Sprint(p)
	}
	for name, p := range others {
		for other, q := range others {
			if impl.SameProg(p, q) != (printed[name] == printed[other]) {
				t.Errorf("%s and %s: %v", name, other, impl.SameProg(p, q))
			}
		}
	}
	r := rand.New(rand.NewSource(141))
	for range 500 {
		p := randomProg(r, sig22, 4)
		places := progPlaces(p, nil)
		place := places[r.Intn(len(places))]
		q := changedProg(p, place.path, randomProg(r, sig22, 2))
		want(t, "one node changed", list(impl.SameProg(p, q), impl.SameProg(q, p)), list(sameText(p, q), sameText(p, q)))
	}
	want(t, "empty lists", list(impl.SameProg(impl.Prog{}, impl.Prog{Kids: []impl.Prog{}, Cond: impl.Expr{Kids: []impl.Expr{}}}), impl.SameProg(seq(skip, skip), impl.Prog{Kind: impl.PSeq, Kids: []impl.Prog{skip}})), list(true, false))
}

func TestProgText(t *testing.T) {
	for text, p := range map[string]impl.Prog{
		"skip": skip, "fail": failing, "a0": do(0), "a1": do(1), "assert ~t1": assert(tree(impl.ENot, test(1))), "assert (t0 + 0)": assert(tree(impl.ESum, test(0), zero)),
		"{a0; a1}": seq(do(0), do(1)), "{{a0; skip}; {fail; a1}}": seq(seq(do(0), skip), seq(failing, do(1))),
		"if (t0 t1) then a0 else skip fi": ifThen(tree(impl.EDot, test(0), test(1)), do(0), skip), "while 1 do a1 od": while(one, do(1)),
		"while t0 do if ~t1 then a0 else {skip; a1} fi od":                               while(test(0), ifThen(tree(impl.ENot, test(1)), do(0), seq(skip, do(1)))),
		"if t0 then while t1 do assert 1 od else if 0 then fail else {a0; a0} fi fi":     ifThen(test(0), while(test(1), assert(one)), ifThen(zero, failing, seq(do(0), do(0)))),
		"{while 0 do {skip; while ~~t0 do a1 od} od; assert ((t0 + t1) + (~(t0 t1) 1))}": seq(while(zero, seq(skip, while(nested(impl.ENot, 2, test(0)), do(1)))), assert(tree(impl.ESum, tree(impl.ESum, test(0), test(1)), tree(impl.EDot, tree(impl.ENot, tree(impl.EDot, test(0), test(1))), one)))),
	} {
		want(t, "text", impl.ProgText(sig22, p), text)
		q, code := impl.ReadProg(sig22, text)
		want(t, "read "+text, list(q, code), list(p, impl.OK))
	}
	r := rand.New(rand.NewSource(142))
	for range 2000 {
		p := randomProg(r, sig34, 1+r.Intn(5))
		text := progByTable(p)
		q, code := impl.ReadProg(sig34, text)
		want(t, "text", impl.ProgText(sig34, p), text)
		want(t, "read again", list(impl.SameProg(p, q), q, code), list(true, p, impl.OK))
	}
}

// badProgTexts are the texts of no programs of 2 tests and 2 actions.
var badProgTexts = []string{
	"", " ", "\n", "skip ", " skip", "skip\n", "Skip", "skipp", "ski", "skip;", "skipskip", "skip skip", "skip; skip", "(skip)", "{skip}", "fail ", "fai", "failed", "nop", "0", "1", "t0", "~t0", "\xff",
	"a", "a ", "a 0", "a0 ", " a0", "a00", "a01", "a-1", "a+1", "a2", "a10", "a0a1", "a0 a1", "(a0 a1)", "a0*", "A0", "a999999999999999999999999", "a18446744073709551616", "a0;",
	"assert", "assert ", "assert  t0", "assert\tt0", "assertt0", "assert t0 ", "assert a0", "assert t0*", "assert (t0 + a1)", "assert (t0+t1)", "assert t2", "assert t00", "assert t", "assert ~", "assert ~a0", "assert skip", "assert (t0)", "assert (t0 t1", "assert t0)", "Assert t0",
	"{", "}", "{}", "{; }", "{skip; }", "{; skip}", "{skip;skip}", "{skip;  skip}", "{skip ; skip}", "{skip skip}", "{skip, skip}", "{ skip; skip}", "{skip; skip }", "{skip; skip} ", "{skip; skip", "{skip; skip}}", "{{skip; skip}", "{skip; skip; skip}", "{skip;\nskip}", "(skip; skip)",
	"if", "if ", "if t0", "if t0 then skip", "if t0 then skip fi", "if t0 then skip else skip", "if t0 then skip else skip f", "if t0 then skip else skipfi", "if t0 then skip else skip  fi", "if t0 then skip else skip fi ", "if t0 then skip else skip fi fi", "if t0 then skip else fi", "if t0 then else skip fi",
	"if  t0 then skip else skip fi", "if t0  then skip else skip fi", "if t0 then  skip else skip fi", "if t0 then skip  else skip fi", "if t0 then skip else  skip fi", "ift0 then skip else skip fi", "if t0then skip else skip fi", "if t0 thenskip else skip fi", "if t0 then skipelse skip fi", "if t0 then skip elseskip fi",
	"if a0 then skip else skip fi", "if t0* then skip else skip fi", "if t2 then skip else skip fi", "if (t0) then skip else skip fi", "if then skip else skip fi", "if t0 then a2 else skip fi", "if t0 then skip else a2 fi", "if t0 then skip else skip od", "IF t0 then skip else skip fi", "if t0 then skip; skip else skip fi",
	"while", "while ", "while t0", "while t0 do", "while t0 do skip", "while t0 do skip o", "while t0 do skipod", "while t0 do skip  od", "while t0 do skip od ", "while t0 do skip od od", "while t0 do od", "while t0 do  od", "while do skip od", "while  t0 do skip od", "while t0  do skip od", "while t0 do  skip od",
	"whilet0 do skip od", "while t0do skip od", "while t0 doskip od", "while a0 do skip od", "while t0* do skip od", "while t2 do skip od", "while t0 do a2 od", "while t0 do skip fi", "while t0 do skip; skip od", "while t0 do while t0 do skip od", "while t0 then skip od", " while t0 do skip od", "while t01 do skip od", "while t0 do a01 od", "while t0 do skip od\x00",
}

func TestReadProgErrors(t *testing.T) {
	refused := append(slices.Clone(badProgTexts), progByTable(evenly(31, skip)), progByTable(loops(20, skip)), progByTable(assert(nested(impl.ENot, 40, one))), "assert "+balanced(101, "1", " "),
		strings.Repeat("{", 6000), strings.Repeat("while 1 do ", 545), "assert "+strings.Repeat("~", 5993), "assert "+strings.Repeat("(", 5993), strings.Repeat("a", 6000))
	for _, text := range refused {
		p, code := impl.ReadProg(sig22, text)
		want(t, "read "+text, list(p, code), list(impl.Prog{}, impl.ErrSyntax))
		for _, g := range badSigs {
			p, code = impl.ReadProg(g, text)
			want(t, "a bad signature", list(p, code), list(impl.Prog{}, impl.ErrInvalid))
		}
	}
	for _, text := range []string{progByTable(while(one, evenly(30, skip))), progByTable(loops(19, skip)), progByTable(assert(nested(impl.ENot, 39, one))), "assert ~" + balanced(100, "1", " ")} {
		p, code := impl.ReadProg(sig22, text)
		want(t, "just small enough", list(progByTable(p), code), list(text, impl.OK))
	}
	r := rand.New(rand.NewSource(143))
	letters, read := "{};~() 0123tasdofiehw", 0
	for i := range 20_000 {
		text := altered(r, progByTable(randomProg(r, sig22, 1+i%4)), letters)
		p, code := impl.ReadProg(sig22, text)
		if code == impl.OK {
			read++
			want(t, "text", list(impl.ProgText(sig22, p), progByTable(p)), list(text, text))
		} else {
			want(t, "read "+text, list(p, code), list(impl.Prog{}, impl.ErrSyntax))
		}
	}
	if read < 500 {
		t.Errorf("only %d texts are read", read)
	}
}

// progOfLength is the text of a valid program with so many bytes, from 600 on.
func progOfLength(t *testing.T, length int) string {
	t.Helper()
	p, rest := "skip", 0
	for {
		rest = length - len("{"+p+"; assert }")
		if rest < 600 {
			break
		}
		p = "{" + p + "; assert " + balanced(75, "t0", " + ") + "}"
	}
	leaves := (rest + 5) / 7 // so many have 7 * leaves - 5 bytes
	text := "{" + p + "; assert " + strings.Repeat("~", (rest+5)%7) + balanced(leaves, "t0", " + ") + "}"
	if len(text) != length {
		t.Fatalf("%d bytes, not %d", len(text), length)
	}
	return text
}

func TestProgTextLimit(t *testing.T) {
	for _, length := range []int{1000, 3999, 4001, 5999, 6000} {
		text := progOfLength(t, length)
		p, code := impl.ReadProg(sig12, text)
		want(t, "a long text", list(impl.ProgText(sig12, p), code), list(text, impl.OK))
	}
	for _, text := range []string{progOfLength(t, 6001), progOfLength(t, 6300), strings.Repeat("?", 6001), strings.Repeat(" ", 100_000), "skip" + strings.Repeat(" ", 5997)} {
		p, code := impl.ReadProg(sig12, text)
		want(t, "too long", list(p, code), list(impl.Prog{}, impl.ErrRange))
		_, code = impl.ReadProg(impl.Sig{Tests: 4}, text)
		want(t, "too long for a bad signature", code, impl.ErrInvalid)
	}
	large := evenly(25, assert(mustExpr(t, sig12, balanced(100, "t0", " + "))))
	text := impl.ProgText(sig12, large)
	_, code := impl.ReadProg(sig12, text)
	want(t, "a valid program with a longer text", list(text == progByTable(large), len(text) > 6000, code), list(true, true, impl.ErrRange))
}

func TestProgExpr(t *testing.T) {
	for text, wanted := range map[string]string{
		"skip": "1", "fail": "0", "a1": "a1", "assert ~(t0 t1)": "~(t0 t1)", "{a0; a1}": "(a0 a1)", "{{a0; fail}; skip}": "((a0 0) 1)",
		"if t0 then a0 else a1 fi": "((t0 a0) + (~t0 a1))", "if ~t0 then skip else fail fi": "((~t0 1) + (~~t0 0))", "while t0 do a0 od": "((t0 a0)* ~t0)",
		"while 1 do skip od": "((1 1)* ~1)", "while ~(t0 + t1) do assert t0 od": "((~(t0 + t1) t0)* ~~(t0 + t1))", "while t0 do while t1 do a0 od od": "((t0 ((t1 a0)* ~t1))* ~t0)",
	} {
		e, code := impl.ProgExpr(sig22, mustProg(t, sig22, text))
		want(t, "expression of "+text, list(impl.ExprText(sig22, e), code), list(wanted, impl.OK))
	}
	r := rand.New(rand.NewSource(144))
	for range 1000 {
		p := randomProg(r, sig34, 1+r.Intn(5))
		e, code := impl.ProgExpr(sig34, p)
		wanted := exprByProg(p)
		if !impl.ValidExpr(sig34, wanted) {
			want(t, "too large", list(e, code), list(impl.Expr{}, impl.ErrLimit))
			continue
		}
		want(t, "expression", list(textOf(e), code, impl.SameExpr(e, wanted)), list(textOf(wanted), impl.OK, true))
	}
}

func TestProgExprErrors(t *testing.T) {
	for name, p := range badProgs() {
		e, code := impl.ProgExpr(sig22, p)
		want(t, name, list(e, code), list(impl.Expr{}, impl.ErrInvalid))
	}
	nodes := func(count int) impl.Expr { // a flat condition with so many nodes
		c := mustExpr(t, sig12, balanced((count+1)/2, "t0", " "))
		if count%2 == 0 {
			c = tree(impl.ENot, mustExpr(t, sig12, balanced(count/2, "t0", " ")))
		}
		return c
	}
	levels := func(depth int) impl.Expr { return nested(impl.ENot, depth-1, one) }
	for _, row := range []struct {
		name string
		p    impl.Prog
		code int
	}{
		{"200 nodes", seq(assert(nodes(99)), assert(nodes(100))), impl.OK},
		{"201 nodes", seq(assert(nodes(100)), assert(nodes(100))), impl.ErrLimit},
		{"200 nodes of an assertion", assert(nodes(200)), impl.OK},
		{"a loop of 199 nodes", while(nodes(97), skip), impl.OK},
		{"a loop of 200 nodes", while(nodes(97), assert(nodes(2))), impl.OK},
		{"a loop of 201 nodes", while(nodes(98), skip), impl.ErrLimit},
		{"a choice of 200 nodes", ifThen(nodes(97), skip, skip), impl.OK},
		{"a choice of 201 nodes", ifThen(nodes(97), skip, assert(nodes(2))), impl.ErrLimit},
		{"40 levels", seq(assert(levels(39)), skip), impl.OK},
		{"41 levels", seq(assert(levels(40)), skip), impl.ErrLimit},
		{"41 levels in a second kid", seq(skip, assert(levels(40))), impl.ErrLimit},
		{"a loop of 40 levels", while(levels(37), skip), impl.OK},
		{"a loop of 41 levels", while(levels(38), skip), impl.ErrLimit},
		{"a choice of 40 levels", ifThen(levels(37), skip, skip), impl.OK},
		{"a choice of 41 levels", ifThen(levels(38), skip, skip), impl.ErrLimit},
		{"13 loops of 40 levels", loops(13, skip), impl.OK},
		{"13 loops of 41 levels", loops(13, seq(skip, skip)), impl.ErrLimit},
		{"far too many nodes", evenly(30, assert(nodes(200))), impl.ErrLimit},
	} {
		e, code := impl.ProgExpr(sig12, row.p)
		want(t, row.name, code, row.code)
		if row.code == impl.OK {
			want(t, row.name, impl.SameExpr(e, exprByProg(row.p)), true)
		} else {
			want(t, row.name, e, impl.Expr{})
		}
	}
}
