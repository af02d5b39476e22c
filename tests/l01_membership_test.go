package tests

import (
	"math"
	"math/rand"
	"strings"
	"testing"

	"loop.example/g01101/impl"
)

// TestMatches: words of expressions by their texts, those that are fused at an
// atom among them.
func TestMatches(t *testing.T) {
	rows := []struct{ expr, has, hasNot string }{
		{"0", "", "0|1|0 a0 0"},
		{"1", "0|1|2|3", "0 a0 0|3 a1 3"},
		{"t0", "1|3", "0|2|1 a0 1"},
		{"~t0", "0|2", "1|3|0 a0 0"},
		{"~(t0 + t1)", "0", "1|2|3"},
		{"~(t0 t1)", "0|1|2", "3|0 a0 0"},
		{"~0", "0|3", "0 a0 0"},
		{"a0", "0 a0 0|3 a0 1", "0|0 a1 0|0 a0 0 a0 0"},
		{"(a0 + t1)", "2|3|0 a0 1", "0|1|2 a1 2"},
		{"(t0 t1)", "3", "0|1|2"},
		{"(t0 a0)", "1 a0 0|3 a0 2", "0 a0 1|2 a0 3|1|1 a1 0"},
		{"(a0 t0)", "0 a0 1|2 a0 3", "1 a0 0|1|1 a0 2"},
		{"((a0 t0) (~t1 a1))", "2 a0 1 a1 3", "2 a0 3 a1 3|2 a0 0 a1 3|2 a0 1|2 a1 1 a0 3"},
		{"((a0 t0) (~t0 a1))", "", "2 a0 1 a1 3|2 a0 0 a1 3|0 a0 1 a0 0 a1 0"},
		{"(a0 a1)", "0 a0 1 a1 2", "0 a0 1|0 a1 1 a0 0|0 a0 1 a1 2 a1 2"},
		{"a0*", "0|3|1 a0 2|1 a0 2 a0 3 a0 0", "1 a1 2|1 a0 2 a1 3 a0 0"},
		{"t0*", "0|1|2|3", "1 a0 1"},
		{"0*", "0|1|2|3", "0 a0 0"},
		{"(t0 a0)*", "0|1|1 a0 2|3 a0 1 a0 0", "0 a0 1|1 a0 0 a0 1"},
		{"((t0 a0)* ~t0)", "0|2|1 a0 2|1 a0 3 a0 0", "1|1 a0 1|0 a0 0"},
		{"((a0 a1)* + a1**)", "0|0 a0 1 a1 2 a0 3 a1 0|1 a1 1 a1 1", "0 a0 1|0 a1 1 a0 0"},
		{"(a0* (t0 a1)*)*", "0 a0 1 a1 1 a1 0 a0 0", "0 a0 0 a1 0|2 a1 2"},
		{"((a0 + 1) (a0 + 1))", "0|0 a0 0|0 a0 0 a0 0", "0 a0 0 a0 0 a0 0|0 a1 0"},
	}
	g := impl.Sig{Tests: 2, Actions: 2}
	for _, r := range rows {
		e := mustExpr(t, g, r.expr)
		for i, words := range []string{r.has, r.hasNot} {
			for _, text := range strings.Split(words, "|") {
				if text != "" {
					got, code := impl.Matches(g, e, mustWord(t, g, text))
					want(t, text+" of "+r.expr, list(got, code), list(i == 0, impl.OK))
				}
			}
		}
	}
}

func TestMatchesErrors(t *testing.T) {
	w := impl.Word{Atoms: []int64{0}}
	for name, e := range badExprs() {
		got, code := impl.Matches(impl.Sig{Tests: 2, Actions: 2}, e, w)
		want(t, name, list(got, code), list(false, impl.ErrInvalid))
	}
	for name, bad := range badWords() {
		got, code := impl.Matches(sig12, mustExpr(t, sig12, "(a0 + 1)*"), bad)
		want(t, name, list(got, code), list(false, impl.ErrInvalid))
	}
	for _, g := range badSigs {
		got, code := impl.Matches(g, one, w)
		want(t, "bad signature", list(got, code), list(false, impl.ErrInvalid))
	}
	longest := mustWord(t, sig12, "0"+strings.Repeat(" a0 1", 10))
	got, code := impl.Matches(sig12, mustExpr(t, sig12, "(a0 t0)*"), longest)
	want(t, "the longest word", list(got, code), list(true, impl.OK))
	longest.Acts[9] = 1
	got, code = impl.Matches(sig12, mustExpr(t, sig12, "(a0 t0)*"), longest)
	want(t, "its last action", list(got, code), list(false, impl.OK))
}

// TestMembership compares words by the table, by Matches, by WordsUpTo and by
// CountWords: promise 2.
func TestMembership(t *testing.T) {
	r := rand.New(rand.NewSource(4))
	limits := 0
	for i := range 600 {
		g := []impl.Sig{sig11, sig12, {Tests: 2, Actions: 1}, {Tests: 0, Actions: 2}, {Tests: 2}, sig00}[i%6]
		e, length := randomExpr(r, g, 2+i%4), 3
		found, code := impl.WordsUpTo(g, e, int64(length))
		if code == impl.ErrLimit {
			limits++
			continue
		}
		want(t, "code", code, impl.OK)
		expected := []impl.Word{}
		for n := range length + 1 {
			before := len(expected)
			for _, w := range wordsOfLength(g, n) {
				if holds(e, w) {
					expected = append(expected, w)
				}
				got, code := impl.Matches(g, e, w)
				want(t, "Matches of "+impl.ExprText(g, e), list(got, code), list(holds(e, w), impl.OK))
			}
			count, code := impl.CountWords(g, e, int64(n))
			want(t, "CountWords", list(count, code), list(len(expected)-before, impl.OK))
		}
		want(t, "WordsUpTo of "+impl.ExprText(g, e), texts(g, found), texts(g, expected))
	}
	if limits > 30 {
		t.Errorf("%d of the expressions meet a limit", limits)
	}
}

func TestWordsUpTo(t *testing.T) {
	rows := []struct {
		g      impl.Sig
		expr   string
		length int64
		words  string
	}{
		{sig11, "(t0 a0)*", 0, "0, 1"},
		{sig11, "(t0 a0)*", 1, "0, 1, 1 a0 0, 1 a0 1"},
		{sig11, "(t0 a0)*", 2, "0, 1, 1 a0 0, 1 a0 1, 1 a0 1 a0 0, 1 a0 1 a0 1"},
		{sig12, "((a1 ~t0) + a0)", 1, "0 a0 0, 0 a0 1, 0 a1 0, 1 a0 0, 1 a0 1, 1 a1 0"},
		{sig12, "((a1 ~t0) + a0)", 10, "0 a0 0, 0 a0 1, 0 a1 0, 1 a0 0, 1 a0 1, 1 a1 0"},
		{sig12, "((a1 + a0) (t0 (a0 + (a1 ~t0))))", 2, "0 a0 1 a0 0, 0 a0 1 a0 1, 0 a0 1 a1 0, 0 a1 1 a0 0, 0 a1 1 a0 1, " +
			"0 a1 1 a1 0, 1 a0 1 a0 0, 1 a0 1 a0 1, 1 a0 1 a1 0, 1 a1 1 a0 0, 1 a1 1 a0 1, 1 a1 1 a1 0"},
		{sig11, "0", 10, ""}, {sig11, "(a0 0)", 10, ""}, {sig11, "(t0 ~t0)", 10, ""}, {sig11, "(a0 a0)", 1, ""},
		{sig34, "~(t0 + t2)", 10, "0, 2"}, {sig00, "1*", 10, "0"}, {sig04, "(a3 + (a2 a0))", 2, "0 a3 0, 0 a2 0 a0 0"},
		{sig01, "a0*", 10, "0, " + strings.Join(chainsOf("0", " a0 0", 10), ", ")},
	}
	for _, r := range rows {
		words, code := impl.WordsUpTo(r.g, mustExpr(t, r.g, r.expr), r.length)
		want(t, "words of "+r.expr, list(texts(r.g, words), code), list(r.words, impl.OK))
	}
}

// chainsOf returns a text with a part behind it once, twice and so on.
func chainsOf(text, part string, times int) []string {
	out := []string{}
	for range times {
		text += part
		out = append(out, text)
	}
	return out
}

func TestCountWords(t *testing.T) {
	all := mustExpr(t, sig34, "(((a0 + a1) + a2) + a3)*")
	total := int64(8)
	for length := range int64(11) {
		count, code := impl.CountWords(sig34, all, length)
		want(t, "all words", list(count, code), list(total, impl.OK))
		total *= 32
	}
	rows := []struct {
		expr   string
		length int64
		count  int64
	}{
		{"(t0 a0)*", 0, 2}, {"(t0 a0)*", 3, 2}, {"(t0 a0)*", 10, 2}, {"(a0 a1)*", 3, 0}, {"(a0 a1)*", 4, 32},
		{"(a0 + a0)", 1, 4}, {"(a0* a0*)", 2, 8}, {"(a0 + a1)*", 10, 1 << 21}, {"0", 0, 0}, {"t0", 0, 1}, {"~~t0", 1, 0},
	}
	for _, r := range rows {
		count, code := impl.CountWords(sig12, mustExpr(t, sig12, r.expr), r.length)
		want(t, "count of "+r.expr, list(count, code), list(r.count, impl.OK))
	}
}

// TestMaxWords: exactly as many words as are allowed, and one more.
func TestMaxWords(t *testing.T) {
	c, all := "(t0 + (t1 t2))", "((a0 + a1) + (a2 + a3))"
	full := "(" + c + " (" + all + " (" + c + " (" + all + " " + c + "))))" // 5 * 4 * 5 * 4 * 5 words
	rows := []struct {
		expr       string
		length     int64
		words      int
		code       int
		last, next int64
	}{
		{full, 2, 2000, impl.OK, 2000, 0}, {full, 10, 2000, impl.OK, 0, 0}, {full, 1, 0, impl.OK, 0, 2000},
		{"(" + full + " + (~t0 (t1 t2)))", 2, 0, impl.ErrLimit, 2000, 0},
		{"(" + full + " + (~t0 (t1 t2)))", 1, 1, impl.OK, 0, 2000},
		{"(" + full + " + ((t0 (t1 t2)) (a0 (((t0 t1) t2) (a0 (((t0 t1) t2) (a0 ((t0 t1) t2))))))))", 2, 2000, impl.OK, 2000, 1},
		{"(" + full + " + ((t0 (t1 t2)) (a0 (((t0 t1) t2) (a0 (((t0 t1) t2) (a0 ((t0 t1) t2))))))))", 3, 0, impl.ErrLimit, 1, 0},
		{all + "*", 1, 264, impl.OK, 256, 8192}, {all + "*", 2, 0, impl.ErrLimit, 8192, 8192 * 32},
		{all + "*", 9, 0, impl.ErrLimit, 1 << 48, 1 << 53},
	}
	for _, r := range rows {
		e := mustExpr(t, sig34, r.expr)
		words, code := impl.WordsUpTo(sig34, e, r.length)
		want(t, "words of "+short(r.expr), list(len(words), code), list(r.words, r.code))
		for i, w := range words {
			yes, _ := impl.Matches(sig34, e, w)
			if !yes || i > 0 && !wordLess(words[i-1], w) {
				t.Fatalf("the word %v of %s is wrong or not in order", w, r.expr)
			}
		}
		last, _ := impl.CountWords(sig34, e, r.length)
		want(t, "count of "+short(r.expr), last, r.last)
		if r.length < 10 {
			next, _ := impl.CountWords(sig34, e, r.length+1)
			want(t, "next count of "+short(r.expr), next, r.next)
		}
	}
}

// wordLess is the order of words, as chapter 1 tells it.
func wordLess(v, w impl.Word) bool {
	if len(v.Acts) != len(w.Acts) {
		return len(v.Acts) < len(w.Acts)
	}
	for i := range v.Atoms {
		if v.Atoms[i] != w.Atoms[i] {
			return v.Atoms[i] < w.Atoms[i]
		}
		if i < len(v.Acts) && v.Acts[i] != w.Acts[i] {
			return v.Acts[i] < w.Acts[i]
		}
	}
	return false
}

func TestWordsErrors(t *testing.T) {
	check := func(name string, g impl.Sig, e impl.Expr, length int64, wanted int) {
		t.Helper()
		words, code := impl.WordsUpTo(g, e, length)
		count, second := impl.CountWords(g, e, length)
		want(t, name, list(code, second), list(wanted, wanted))
		if wanted != impl.OK {
			want(t, name, list(words, count), list([]impl.Word{}, 0))
		}
	}
	for name, e := range badExprs() {
		check(name, impl.Sig{Tests: 2, Actions: 2}, e, 1, impl.ErrInvalid)
		check(name, impl.Sig{Tests: 2, Actions: 2}, e, -1, impl.ErrInvalid)
	}
	for _, g := range badSigs {
		check("bad signature", g, one, 0, impl.ErrInvalid)
		check("bad signature and length", g, one, 11, impl.ErrInvalid)
	}
	for _, length := range []int64{-1, 11, math.MinInt64, math.MaxInt64} {
		check("length", sig11, one, length, impl.ErrRange)
		check("length before limit", sig01, mustExpr(t, sig01, balanced(60, "a0", " ")), length, impl.ErrRange)
	}
	check("length 0", sig11, one, 0, impl.OK)
	check("length 10", sig11, one, 10, impl.OK)
}

// TestWordsNeedAutomata: the limits of AutomatonOf are those of the words too,
// even where there are few of them.
func TestWordsNeedAutomata(t *testing.T) {
	same := "(%s + %s)"
	alike := func(extra map[int]int) string {
		chain := derivedChain(10, extra)
		other := strings.Replace(chain, "(1 ", "(t0 ", 1)
		return strings.Replace(strings.Replace(same, "%s", chain, 1), "%s", other, 1)
	}
	rows := []struct {
		name, expr string
		code       int
	}{
		{"60 states", balanced(59, "a0", " "), impl.OK},
		{"61 states", balanced(60, "a0", " "), impl.ErrLimit},
		{"a derivative of 800 nodes", derivedChain(15, map[int]int{6: 1, 15: 1}), impl.OK},
		{"a derivative of 801 nodes", derivedChain(15, map[int]int{7: 1, 15: 1}), impl.ErrLimit},
		{"a derivative of 801 nodes that is not used", "(~1 " + derivedChain(15, map[int]int{7: 1, 15: 1}) + ")", impl.OK},
		{"a derivative of 801 nodes behind an action", "(a0 " + derivedChain(15, map[int]int{7: 1, 15: 1}) + ")", impl.ErrLimit},
		{"a derivative of 801 nodes of a summand", "(~1 + " + derivedChain(15, map[int]int{7: 1, 15: 1}) + ")", impl.ErrLimit},
		{"twice the same of 799 nodes", alike(map[int]int{5: 3, 10: 4}), impl.OK},
		{"twice the same of 801 nodes", alike(map[int]int{4: 4, 10: 4}), impl.ErrLimit},
	}
	for _, r := range rows {
		e := mustExpr(t, sig11, r.expr)
		for _, length := range []int64{0, 1} {
			_, first := impl.WordsUpTo(sig11, e, length)
			count, second := impl.CountWords(sig11, e, length)
			want(t, r.name, list(first, second), list(r.code, r.code))
			if r.code != impl.OK {
				want(t, r.name, count, 0)
			}
		}
	}
	count, code := impl.CountWords(sig11, mustExpr(t, sig11, balanced(10, "a0", " ")), 10)
	want(t, "the only length", list(count, code), list(1<<11, impl.OK))
}

// TestReversedWords: the words of the reversed expression are the reversed words.
func TestReversedWords(t *testing.T) {
	r := rand.New(rand.NewSource(5))
	for i := range 300 {
		g := []impl.Sig{sig11, sig12, {Tests: 2, Actions: 2}}[i%3]
		e := randomExpr(r, g, 4)
		back, code := impl.ReverseExpr(g, e)
		want(t, "code", code, impl.OK)
		again, _ := impl.ReverseExpr(g, back)
		want(t, "twice", impl.SameExpr(again, e), true)
		for n := range 3 {
			for _, w := range wordsOfLength(g, n) {
				v, _ := impl.ReverseWord(g, w)
				first, _ := impl.Matches(g, e, w)
				second, _ := impl.Matches(g, back, v)
				if first != second {
					t.Fatalf("%s has %s, but %s has not the reverse", impl.ExprText(g, e), impl.WordText(g, w), impl.ExprText(g, back))
				}
			}
		}
	}
}

// TestFusedMembership: a word of a product is fused of words of the kids, and
// what is fused of such words is one of the product.
func TestFusedMembership(t *testing.T) {
	r := rand.New(rand.NewSource(6))
	for range 150 {
		e, f := randomExpr(r, sig12, 3), randomExpr(r, sig12, 3)
		left, first := impl.WordsUpTo(sig12, e, 1)
		right, second := impl.WordsUpTo(sig12, f, 1)
		want(t, "codes", list(first, second), list(impl.OK, impl.OK))
		made := map[string]bool{}
		for _, v := range left {
			for _, w := range right {
				if v.Atoms[len(v.Acts)] == w.Atoms[0] {
					made[impl.WordText(sig12, fused(t, sig12, v, w))] = true
				}
			}
		}
		for text := range made {
			yes, _ := impl.Matches(sig12, tree(impl.EDot, e, f), mustWord(t, sig12, text))
			want(t, text, yes, true)
		}
		for n := range 2 { // both parts of such a word are at most as long
			for _, w := range wordsOfLength(sig12, n) {
				yes, _ := impl.Matches(sig12, tree(impl.EDot, e, f), w)
				want(t, "made of both", made[impl.WordText(sig12, w)], yes)
			}
		}
	}
}

// equalTexts are pairs of expressions that have the same words.
var equalTexts = [][2]string{
	{"(a0 + a1)", "(a1 + a0)"}, {"(a0 + a0)", "a0"}, {"(a0 + 0)", "a0"}, {"(a0 1)", "a0"}, {"(0 a0)", "(a0 0)"},
	{"(a0 (a1 + t0))", "((a0 a1) + (a0 t0))"}, {"((a0 a1) a0)", "(a0 (a1 a0))"}, {"(1 + (a0 a0*))", "a0*"},
	{"(1 + (a0* a0))", "a0*"}, {"((a0 a1)* a0)", "(a0 (a1 a0)*)"}, {"(a0 + a1)*", "(a0* (a1 a0*)*)"},
	{"a0**", "a0*"}, {"(t0 + ~t0)", "1"}, {"(t0 (~t0 a0))", "0"}, {"~(t0 + ~t0)", "0"}, {"(t0 a0)", "(t0 (t0 a0))"},
	{"((t0 a0)* ~t0)", "(~t0 + ((t0 a0) ((t0 a0)* ~t0)))"}, {"((t0 a0) + (~t0 a0))", "a0"}, {"(a0 a0*)", "(a0* a0)"},
}

// TestEqualStayEqual: equal expressions stay equal when actions are replaced;
// here they are compared by their words up to a length.
func TestEqualStayEqual(t *testing.T) {
	same := func(e, f impl.Expr) bool {
		t.Helper()
		for n := range 4 {
			for _, w := range wordsOfLength(sig12, n) {
				first, _ := impl.Matches(sig12, e, w)
				second, _ := impl.Matches(sig12, f, w)
				if first != second {
					return false
				}
			}
		}
		return true
	}
	r := rand.New(rand.NewSource(7))
	for _, pair := range equalTexts {
		e, f := mustExpr(t, sig12, pair[0]), mustExpr(t, sig12, pair[1])
		want(t, pair[0]+" = "+pair[1], same(e, f), true)
		for range 8 {
			by := []impl.Expr{randomExpr(r, sig12, 3), randomExpr(r, sig12, 3)}
			x, first := impl.ReplaceActions(sig12, e, by)
			y, second := impl.ReplaceActions(sig12, f, by)
			want(t, "codes", list(first, second), list(impl.OK, impl.OK))
			if !same(x, y) {
				t.Errorf("%s and %s are not equal", impl.ExprText(sig12, x), impl.ExprText(sig12, y))
			}
		}
	}
	want(t, "others", same(act(0), act(1)), false)
}
