package tests

import (
	"fmt"
	"math/rand"
	"strings"
	"testing"

	"loop.example/g01101/impl"
)

// Signatures that the tests use, by the numbers of tests and actions.
var (
	sig00 = impl.Sig{}
	sig01 = impl.Sig{Tests: 0, Actions: 1}
	sig04 = impl.Sig{Tests: 0, Actions: 4}
	sig11 = impl.Sig{Tests: 1, Actions: 1}
	sig12 = impl.Sig{Tests: 1, Actions: 2}
	sig34 = impl.Sig{Tests: 3, Actions: 4}
)

// badSigs are signatures that are just outside of the limits, or far outside.
var badSigs = []impl.Sig{
	{Tests: -1, Actions: 1}, {Tests: 1, Actions: -1},
	{Tests: 4, Actions: 1}, {Tests: 1, Actions: 5},
	{Tests: 1 << 62, Actions: 1}, {Tests: 1, Actions: -1 << 63},
}

// want compares by what fmt prints, for which nil and empty slices are the same.
func want(t *testing.T, name string, got, wanted any) {
	t.Helper()
	if g, w := fmt.Sprintf("%+v", got), fmt.Sprintf("%+v", wanted); g != w {
		t.Errorf("%s: got %s, want %s", name, short(g), short(w))
	}
}

func short(s string) string {
	if len(s) > 300 {
		return s[:300] + ".."
	}
	return s
}

// list makes one value of several results.
func list(results ...any) []any { return results }

// mustExpr reads an expression that has to be valid.
func mustExpr(t *testing.T, g impl.Sig, text string) impl.Expr {
	t.Helper()
	e, code := impl.ReadExpr(g, text)
	if code != impl.OK {
		t.Fatalf("ReadExpr of %s: code %d", short(text), code)
	}
	return e
}

func mustWord(t *testing.T, g impl.Sig, text string) impl.Word {
	t.Helper()
	w, code := impl.ReadWord(g, text)
	if code != impl.OK {
		t.Fatalf("ReadWord of %s: code %d", short(text), code)
	}
	return w
}

// Makers of expressions, valid or not.
func leaf(kind, num int64) impl.Expr { return impl.Expr{Kind: kind, Num: num} }

func tree(kind int64, kids ...impl.Expr) impl.Expr {
	return impl.Expr{Kind: kind, Kids: kids}
}

func test(i int64) impl.Expr { return leaf(impl.ETest, i) }

func act(i int64) impl.Expr { return leaf(impl.EAct, i) }

var (
	zero = leaf(impl.EZero, 0)
	one  = leaf(impl.EOne, 0)
)

// nested puts e under so many nodes with one kid.
func nested(kind int64, times int, e impl.Expr) impl.Expr {
	for range times {
		e = tree(kind, e)
	}
	return e
}

// balanced returns the text of a flat tree with so many equal leaves.
func balanced(leaves int, one, between string) string {
	if leaves == 1 {
		return one
	}
	left := balanced(leaves/2, one, between)
	return "(" + left + between + balanced(leaves-leaves/2, one, between) + ")"
}

// rightChain returns the text of parts that are nested in second kids.
func rightChain(parts []string, between string) string {
	text := parts[len(parts)-1]
	for i := len(parts) - 2; i >= 0; i-- {
		text = "(" + parts[i] + between + text + ")"
	}
	return text
}

func repeat(part string, times int) []string {
	return strings.Split(strings.Repeat(part+"|", times)[:times*len(part+"|")-1], "|")
}

// derivedChain is the text of an expression whose only step, by a0, leads to a
// sum of 15 dead ends and is about 800 nodes large; each extra adds its
// factor's number, counted from 1, to that size.
func derivedChain(factors int, extra map[int]int) string {
	parts := []string{}
	for i := 1; i <= factors; i++ {
		end := "1"
		if extra[i]%2 == 1 {
			end = "0"
		}
		parts = append(parts, "(1 + (a0 "+strings.Repeat("~", extra[i]+1)+end+"))")
	}
	return rightChain(parts, " ")
}

// holds is membership by the table of chapter 1, word for word.
func holds(e impl.Expr, w impl.Word) bool {
	n := len(w.Acts)
	switch e.Kind {
	case impl.EOne:
		return n == 0
	case impl.ETest:
		return n == 0 && w.Atoms[0]>>e.Num&1 == 1
	case impl.EAct:
		return n == 1 && w.Acts[0] == e.Num
	case impl.ENot:
		return n == 0 && !holds(e.Kids[0], w)
	case impl.ESum:
		return holds(e.Kids[0], w) || holds(e.Kids[1], w)
	case impl.EDot:
		for i := 0; i <= n; i++ {
			if holds(e.Kids[0], part(w, 0, i)) && holds(e.Kids[1], part(w, i, n)) {
				return true
			}
		}
	case impl.EStar:
		if n == 0 {
			return true
		}
		for i := 1; i <= n; i++ {
			if holds(e.Kids[0], part(w, 0, i)) && holds(e, part(w, i, n)) {
				return true
			}
		}
	}
	return false
}

// part is the part of a word between two places; both have their atoms.
func part(w impl.Word, from, to int) impl.Word {
	return impl.Word{Atoms: w.Atoms[from : to+1], Acts: w.Acts[from:to]}
}

// wordsOfLength returns all words of a signature with a length, in order.
func wordsOfLength(g impl.Sig, length int) []impl.Word {
	words := []impl.Word{}
	for atom := range int64(1) << g.Tests {
		if length == 0 {
			words = append(words, impl.Word{Atoms: []int64{atom}})
			continue
		}
		for a := range g.Actions {
			for _, w := range wordsOfLength(g, length-1) {
				words = append(words, impl.Word{
					Atoms: append([]int64{atom}, w.Atoms...), Acts: append([]int64{a}, w.Acts...)})
			}
		}
	}
	return words
}

func texts(g impl.Sig, words []impl.Word) string {
	out := []string{}
	for _, w := range words {
		out = append(out, impl.WordText(g, w))
	}
	return strings.Join(out, ", ")
}

// randomCondition returns a condition of at most this depth.
func randomCondition(r *rand.Rand, g impl.Sig, depth int) impl.Expr {
	kind := r.Intn(6)
	if depth <= 1 {
		kind = r.Intn(3)
	}
	switch {
	case kind == 0:
		return zero
	case kind == 1 || kind == 2 && g.Tests == 0:
		return one
	case kind == 2:
		return test(r.Int63n(g.Tests))
	case kind == 3:
		return tree(impl.ENot, randomCondition(r, g, depth-1))
	case kind == 4:
		return tree(impl.ESum, randomCondition(r, g, depth-1), randomCondition(r, g, depth-1))
	}
	return tree(impl.EDot, randomCondition(r, g, depth-1), randomCondition(r, g, depth-1))
}

// randomExpr returns an expression of at most this depth.
func randomExpr(r *rand.Rand, g impl.Sig, depth int) impl.Expr {
	kind := r.Intn(10)
	switch {
	case depth <= 1 && g.Actions > 0 && kind < 6:
		return act(r.Int63n(g.Actions))
	case depth <= 1 || kind < 2:
		return randomCondition(r, g, min(depth, 3))
	case kind < 5:
		return tree(impl.ESum, randomExpr(r, g, depth-1), randomExpr(r, g, depth-1))
	case kind < 8:
		return tree(impl.EDot, randomExpr(r, g, depth-1), randomExpr(r, g, depth-1))
	}
	return tree(impl.EStar, randomExpr(r, g, depth-1))
}

// randomWord returns a word of the length.
func randomWord(r *rand.Rand, g impl.Sig, length int) impl.Word {
	w := impl.Word{Atoms: []int64{r.Int63n(1 << g.Tests)}}
	for range length {
		w.Acts = append(w.Acts, r.Int63n(g.Actions))
		w.Atoms = append(w.Atoms, r.Int63n(1<<g.Tests))
	}
	return w
}

// altered returns a text into which a letter is put, or without one, or with
// another one.
func altered(r *rand.Rand, text, letters string) string {
	at, letter := r.Intn(len(text)+1), letters[r.Intn(len(letters))]
	way := r.Intn(3)
	switch {
	case way == 0:
		return text[:at] + string(letter) + text[at:]
	case at == len(text):
		return text
	case way == 1:
		return text[:at] + text[at+1:]
	}
	return text[:at] + string(letter) + text[at+1:]
}
