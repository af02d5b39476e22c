package tests

import (
	"math"
	"math/rand"
	"slices"
	"strings"
	"testing"

	"loop.example/g01101/impl"
)

// This file tests finite models, their texts, relations and words: promise 11.

func TestModelConstants(t *testing.T) {
	want(t, "constants", list(impl.MaxPoints, impl.MaxCost, impl.MaxTotal, impl.Far, impl.MaxBits), "[8 1000 1000000 -1 12]")
}

func TestValidModel(t *testing.T) {
	for name, m := range badModels() {
		want(t, name, list(impl.ValidModel(m), impl.ModelText(m)), list(false, ""))
	}
	r := rand.New(rand.NewSource(80))
	for tests := range int64(4) {
		for actions := range int64(5) {
			for _, points := range []int64{1, 2, 7, 8} {
				want(t, "a good one", impl.ValidModel(randomModel(r, impl.Sig{Tests: tests, Actions: actions}, points)), true)
			}
			want(t, "9 points", impl.ValidModel(randomModel(r, impl.Sig{Tests: tests, Actions: actions}, 9)), false)
		}
	}
	want(t, "without lists", list(impl.ValidModel(impl.Model{Points: 1}), impl.ValidModel(impl.Model{Points: 8, Tests: [][]bool{}, Acts: [][][]bool{}})), list(true, true))
}

func TestSameModel(t *testing.T) {
	made := func() impl.Model { return randomModel(rand.New(rand.NewSource(1)), sig22, 3) }
	m, others := made(), badModels()
	for i := range 2 {
		for x := range 3 {
			test := made()
			test.Tests[i][x] = !test.Tests[i][x]
			others["another test "+digit(int64(3*i+x))] = test
			for y := range 3 {
				action := made()
				action.Acts[i][x][y] = !action.Acts[i][x][y]
				others["another action "+digit(int64(9*i+3*x+y))] = action
			}
		}
	}
	for name, other := range others {
		if impl.SameModel(m, other) || impl.SameModel(other, m) {
			t.Errorf("%s: not the same", name)
		}
		want(t, name+" and itself", impl.SameModel(other, impl.Model{Sig: other.Sig, Points: other.Points, Tests: slices.Clone(other.Tests), Acts: slices.Clone(other.Acts)}), true)
	}
	want(t, "the same", list(impl.SameModel(m, made()), impl.SameModel(impl.Model{}, impl.Model{Tests: [][]bool{}, Acts: [][][]bool{}}),
		impl.SameModel(impl.Model{Tests: [][]bool{nil}, Acts: [][][]bool{{nil}, nil}}, impl.Model{Tests: [][]bool{{}}, Acts: [][][]bool{{{}}, {}}})), list(true, true, true))
}

func TestModelText(t *testing.T) {
	eight := strings.TrimSpace(strings.Repeat("10000001 ", 8))
	rows := map[string]impl.Model{
		"model 0 0 1\n":                             {Points: 1},
		"model 0 0 8\n":                             {Points: 8},
		"model 1 0 1\ntest 1\n":                     {Sig: impl.Sig{Tests: 1}, Points: 1, Tests: [][]bool{{true}}},
		"model 2 0 3\ntest 010\ntest 110\n":         {Sig: impl.Sig{Tests: 2}, Points: 3, Tests: [][]bool{{false, true, false}, {true, true, false}}},
		"model 0 1 1\nact 0\n":                      {Sig: sig01, Points: 1, Acts: [][][]bool{{{false}}}},
		"model 1 1 2\ntest 10\nact 01 00\n":         {Sig: sig11, Points: 2, Tests: [][]bool{{true, false}}, Acts: [][][]bool{{{false, true}, {false, false}}}},
		"model 0 2 2\nact 01 11\nact 00 10\n":       {Sig: impl.Sig{Actions: 2}, Points: 2, Acts: [][][]bool{{{false, true}, {true, true}}, {{false, false}, {true, false}}}},
		"model 0 1 8\nact " + eight + "\n":          {Sig: sig01, Points: 8, Acts: [][][]bool{tableBy(8, func(x, y int64) bool { return y%7 == 0 })}},
		"model 0 4 1\nact 0\nact 1\nact 0\nact 1\n": {Sig: sig04, Points: 1, Acts: [][][]bool{{{false}}, {{true}}, {{false}}, {{true}}}},
	}
	for text, m := range rows {
		want(t, "text", impl.ModelText(m), text)
		got, code := impl.ReadModel(text)
		want(t, "read "+text, list(got, code), list(m, impl.OK))
	}
	r := rand.New(rand.NewSource(81))
	for i := range 400 {
		m := randomModel(r, impl.Sig{Tests: int64(i % 4), Actions: int64(i % 5)}, int64(1+i%8))
		got, code := impl.ReadModel(modelByTable(m))
		want(t, "read again", list(impl.SameModel(got, m), code, impl.ModelText(m)), list(true, impl.OK, modelByTable(m)))
	}
}

// badModelTexts are the texts of no models.
var badModelTexts = []string{
	"", "\n", " ", "model", "model\n", "model 0", "model 0 0", "model 0 0\n", "model 0 0 1", "model 0 0 \n", "model 0 0 1 \n", "model 0 0 1\n\n", "model 0 0 1\n ",
	" model 0 0 1\n", "\nmodel 0 0 1\n", "Model 0 0 1\n", "models 0 0 1\n", "model 0 0 1\r\n", "model 0\t0 1\n", "model 0 0 1 0\n", "model 0 0 1\nmodel 0 0 1\n",
	"model  0 0 1\n", "model 0  0 1\n", "model 0 0  1\n", "model 00 0 1\n", "model 0 00 1\n", "model 0 0 01\n", "model 0 0 +1\n", "model 0 0 -1\n", "model 0 0 1.0\n", "model 0 0 x\n",
	"model 0 0 0\n", "model 0 0 9\n", "model 0 0 10\n", "model 0 0 08\n", "model 4 0 1\ntest 0\ntest 0\ntest 0\ntest 0\n", "model 0 5 1\nact 0\nact 0\nact 0\nact 0\nact 0\n",
	"model -1 0 1\n", "model 0 -1 1\n", "model 0 0 18446744073709551617\n", "model 4294967296 0 1\n", "model 999999999999999999999999 0 1\n", "model 0 1 9\nact" + strings.Repeat(" 000000000", 9) + "\n",
	"model 1 0 2\n", "model 1 0 2\ntest\n", "model 1 0 2\ntest \n", "model 1 0 2\ntest 1\n", "model 1 0 2\ntest 101\n", "model 1 0 2\ntest 1 0\n", "model 1 0 2\ntest 10 \n", "model 1 0 2\ntest  10\n",
	"model 1 0 2\ntest 10", "model 1 0 2\ntest 10\n\n", "model 1 0 2\ntest 10\ntest 10\n", "model 1 0 2\ntest 12\n", "model 1 0 2\ntest 1x\n", "model 1 0 2\ntest +-\n", "model 1 0 2\ntest10\n",
	"model 1 0 2\ntests 10\n", "model 1 0 2\nact 10 00\n", "model 1 0 2\n test 10\n", "model 1 0 2 test 10\n", "model 1 0 2test 10\n", "model 2 0 1\ntest 1 test 0\n", "model 2 0 1\ntest 1\n\ntest 0\n",
	"model 0 1 2\n", "model 0 1 2\nact\n", "model 0 1 2\nact 01\n", "model 0 1 2\nact 01 0\n", "model 0 1 2\nact 01 000\n", "model 0 1 2\nact 01 00 00\n", "model 0 1 2\nact 0100\n", "model 0 1 2\nact 01  00\n",
	"model 0 1 2\nact  01 00\n", "model 0 1 2\nact 01 00 \n", "model 0 1 2\nact 01 00", "model 0 1 2\nact 01 00\n\n", "model 0 1 2\nact 01 00\n0", "model 0 1 2\nact 01\n00\n", "model 0 1 2\nact 01\nact 00\n", "model 0 1 2\nacts 01 00\n",
	"model 0 1 2\nact0 01 00\n", "model 0 1 2\nact 02 00\n", "model 0 1 2\nact 01 0x\n", "model 0 1 2\nact 01 00\nact 01 00\n", "model 0 2 2\nact 01 00\n", "model 1 1 2\nact 01 00\ntest 10\n", "model 1 1 1\ntest 1\n\nact 0\n",
}

func TestReadModelErrors(t *testing.T) {
	for _, text := range badModelTexts {
		m, code := impl.ReadModel(text)
		want(t, "read "+text, list(m, code), list(impl.Model{}, impl.ErrSyntax))
	}
	r := rand.New(rand.NewSource(82))
	letters, read := "01 \nmodeltscax-289", 0
	for i := range 20_000 {
		text := altered(r, modelByTable(randomModel(r, impl.Sig{Tests: int64(i % 3), Actions: int64(i % 2)}, int64(1+i%3))), letters)
		m, code := impl.ReadModel(text)
		if code == impl.OK {
			read++
			want(t, "text", list(impl.ModelText(m), modelByTable(m)), list(text, text))
		} else {
			want(t, "read "+text, list(m, code), list(impl.Model{}, impl.ErrSyntax))
		}
	}
	if read < 500 {
		t.Errorf("only %d texts are read", read)
	}
}

func TestAtomOf(t *testing.T) {
	m := mustModel(t, "model 3 0 8", "test 01010101", "test 00110011", "test 00001111")
	for x := range int64(8) {
		atom, code := impl.AtomOf(m, x)
		want(t, "atom", list(atom, code), list(x, impl.OK))
	}
	m = mustModel(t, "model 2 1 3", "test 100", "test 101", "act 111 111 111")
	for x, wanted := range []int64{3, 0, 2} {
		atom, code := impl.AtomOf(m, int64(x))
		want(t, "atom", list(atom, code), list(wanted, impl.OK))
	}
	without, code := impl.AtomOf(impl.Model{Points: 2}, 1)
	want(t, "without tests", list(without, code), list(0, impl.OK))
	for _, x := range []int64{math.MinInt64, -1, 3, 8, math.MaxInt64} {
		atom, code := impl.AtomOf(m, x)
		want(t, "no point", list(atom, code), list(0, impl.ErrRange))
	}
	for name, bad := range badModels() {
		for _, x := range []int64{0, -1} {
			atom, code := impl.AtomOf(bad, x)
			want(t, name, list(atom, code), list(0, impl.ErrInvalid))
		}
	}
}

func TestRelationOf(t *testing.T) {
	line := mustModel(t, "model 2 2 4", "test 1010", "test 0110", "act 0100 0010 0001 0000", "act 0000 0000 0001 1001")
	rows := map[string]string{
		"0": "0000 0000 0000 0000", "1": "1000 0100 0010 0001", "t0": "1000 0000 0010 0000", "t1": "0000 0100 0010 0000",
		"~t0": "0000 0100 0000 0001", "~(t0 + t1)": "0000 0000 0000 0001", "(t0 t1)": "0000 0000 0010 0000", "~~t1": "0000 0100 0010 0000", "~1": "0000 0000 0000 0000",
		"a0": "0100 0010 0001 0000", "a1": "0000 0000 0001 1001", "(a0 + a1)": "0100 0010 0001 1001", "(t0 + a0)": "1100 0010 0011 0000",
		"(a0 a0)": "0010 0001 0000 0000", "(a0 a1)": "0000 0001 1001 0000", "(a1 a0)": "0000 0000 0000 0100", "(t0 a0)": "0100 0000 0001 0000", "(a0 t0)": "0000 0010 0000 0000",
		"(a0 0)": "0000 0000 0000 0000", "(1 a1)": "0000 0000 0001 1001",
		// The repetition has each point, those that lead nowhere too.
		"a0*": "1111 0111 0011 0001", "a1*": "1000 0100 1011 1001", "0*": "1000 0100 0010 0001", "t0*": "1000 0100 0010 0001", "(a0 a0)*": "1010 0101 0010 0001", "(a0 + a1)*": "1111 1111 1111 1111",
		"(a0* a1)": "1001 1001 1001 1001", "(t0 a0)*": "1100 0100 0011 0001", "((t0 a0) + (~t0 a1))*": "1100 0100 1111 1101", "a0**": "1111 0111 0011 0001",
	}
	for text, wanted := range rows {
		pairs, code := impl.RelationOf(line, mustExpr(t, sig22, text))
		want(t, "relation of "+text, list(marksOf(pairs), code), list(wanted, impl.OK))
	}
	ring := "act 01000000 00100000 00010000 00001000 00000100 00000010 00000001 10000000"
	path := strings.ReplaceAll(ring, "10000000", "00000000")
	for lines, wanted := range map[string]string{ring: strings.Repeat(" 11111111", 8), path: " 11111111 01111111 00111111 00011111 00001111 00000111 00000011 00000001"} {
		pairs, code := impl.RelationOf(mustModel(t, "model 0 1 8", lines), mustExpr(t, sig01, "a0*"))
		want(t, "repetition over all points", list(" "+marksOf(pairs), code), list(wanted, impl.OK))
	}
	one, code := impl.RelationOf(mustModel(t, "model 0 0 1"), mustExpr(t, sig00, "~0*"))
	want(t, "without tests and actions", list(marksOf(one), code), list("1", impl.OK))
}

// TestRelationsByTable: what is made of random models is what the table says.
func TestRelationsByTable(t *testing.T) {
	r := rand.New(rand.NewSource(83))
	pairs := 0
	for i := range 1500 {
		g := []impl.Sig{sig12, sig11, sig22, {Tests: 2}, sig00, sig34}[i%6]
		m, e, f := randomModel(r, g, int64(1+i%8)), randomExpr(r, g, 1+i%5), randomExpr(r, g, 1+i%4)
		wanted := relationByTable(m, e)
		got, code := impl.RelationOf(m, e)
		want(t, "relation of "+textOf(e)+" in "+modelByTable(m), list(marksOf(got), code), list(marksOf(wanted), impl.OK))
		pairs += strings.Count(marksOf(got), "1")
		q := impl.Equation{Left: e, Right: f}
		first := firstPairByTable(m, q)
		x, y, left, code := impl.FirstPair(m, q)
		want(t, "first pair", list(x, y, left, code), first)
		yes, code := impl.HoldsIn(m, q)
		want(t, "holds", list(yes, code), list(first[3] == any(impl.ErrNotFound), impl.OK))
		set := randomSet(r, m.Points)
		image, safe := []int64{}, []int64{}
		for y := range m.Points {
			if slices.ContainsFunc(set, func(x int64) bool { return wanted[x][y] }) {
				image = append(image, y)
			}
			leaves := false
			for z, leads := range wanted[y] {
				leaves = leaves || leads && !slices.Contains(set, int64(z))
			}
			if !leaves {
				safe = append(safe, y)
			}
		}
		gotImage, first0 := impl.ImageOf(m, e, set)
		gotSafe, second := impl.SafeBefore(m, e, set)
		want(t, "image and safe points of "+textOf(e), list(gotImage, first0, gotSafe, second), list(image, impl.OK, safe, impl.OK))
	}
	if pairs < 5000 {
		t.Errorf("only %d pairs", pairs)
	}
}

func TestRunsOf(t *testing.T) {
	m := mustModel(t, "model 1 2 4", "test 1010", "act 0110 0001 0010 0000", "act 0000 1000 0011 0010")
	rows := map[string]string{
		"0": "0000 0100 0000 0001", "1": "1000 0000 0010 0000",
		"1 a0 0": "0100 0000 0000 0000", "1 a0 1": "0010 0000 0010 0000", "0 a0 0": "0000 0001 0000 0000", "0 a0 1": "0000 0000 0000 0000",
		"1 a0 1 a0 1": "0010 0000 0010 0000", "1 a0 1 a1 0 a1 1": "0010 0000 0010 0000", "1 a1 1 a1 0": "0000 0000 0001 0000",
		"1 a0 0 a0 0": "0001 0000 0000 0000", "1 a0 0 a1 1 a0 0 a1 1": "1000 0000 0000 0000", "0 a1 1 a0 1": "0000 0010 0000 0010",
		"1" + strings.Repeat(" a0 1", 10): "0010 0000 0010 0000", "0" + strings.Repeat(" a0 0", 10): "0000 0000 0000 0000",
	}
	for text, wanted := range rows {
		runs, code := impl.RunsOf(m, mustWord(t, sig12, text))
		want(t, "runs of "+text, list(marksOf(runs), code), list(wanted, impl.OK))
	}
	r := rand.New(rand.NewSource(84))
	found := 0
	for i := range 1500 {
		g := []impl.Sig{sig12, sig11, sig22, sig34, sig01}[i%5]
		m, w := randomModel(r, g, int64(1+i%8)), randomWord(r, g, i%4)
		wanted := marksOf(runsByTable(m, w))
		runs, code := impl.RunsOf(m, w)
		want(t, "runs of "+impl.WordText(g, w)+" in "+modelByTable(m), list(marksOf(runs), code), list(wanted, impl.OK))
		found += strings.Count(wanted, "1")
	}
	if found < 800 {
		t.Errorf("only %d runs", found)
	}
}

// TestPairsByWords: a pair belongs to an expression just if one of its words
// leads from one point to the other one; this is told by WitnessWord, too.
func TestPairsByWords(t *testing.T) {
	r := rand.New(rand.NewSource(85))
	witnesses, nobody, long := 0, 0, 0
	for i := range 400 {
		g := []impl.Sig{sig12, sig11, sig01, {Tests: 2, Actions: 1}}[i%4]
		m, e := randomModel(r, g, int64(1+i%4)), randomExpr(r, g, 2+i%3)
		pairs, _ := impl.RelationOf(m, e)
		first := map[[2]int64]string{}
		for n := range 4 {
			for _, w := range wordsOfLength(g, n) {
				if !holds(e, w) {
					continue
				}
				for x, row := range runsByTable(m, w) {
					for y, leads := range row {
						if key := [2]int64{int64(x), int64(y)}; leads && first[key] == "" {
							first[key] = impl.WordText(g, w)
						}
					}
				}
			}
		}
		for x := range m.Points {
			for y := range m.Points {
				w, code := impl.WitnessWord(m, e, x, y)
				name := textOf(e) + " from " + digit(x) + " to " + digit(y) + " in " + modelByTable(m)
				if !pairs[x][y] {
					nobody++
					want(t, name, list(w, code, first[[2]int64{x, y}]), list(impl.Word{}, impl.ErrNotFound, ""))
					continue
				}
				if code == impl.ErrLimit {
					long++
					want(t, name, list(w, first[[2]int64{x, y}]), list(impl.Word{}, ""))
					continue
				}
				witnesses++
				runs, second := impl.RunsOf(m, w)
				want(t, name, list(code, second, holds(e, w), runs[x][y]), list(impl.OK, impl.OK, true, true))
				if text := first[[2]int64{x, y}]; text != "" || len(w.Acts) < 4 {
					want(t, name, impl.WordText(g, w), text)
				}
			}
		}
	}
	if witnesses < 800 || nobody < 800 || long > 20 {
		t.Errorf("%d witnesses, none for %d, %d too long", witnesses, nobody, long)
	}
}

func TestWitnessWord(t *testing.T) {
	m := mustModel(t, "model 1 2 4", "test 1010", "act 0110 0001 0010 0000", "act 0000 1000 0011 0010")
	rows := []struct {
		text string
		x, y int64
		word string
	}{
		{"1", 0, 0, "1"}, {"1", 1, 1, "0"}, {"t0", 2, 2, "1"}, {"~t0", 3, 3, "0"}, {"a0*", 2, 2, "1"}, {"a0", 2, 2, "1 a0 1"}, {"(a0 a0*)", 2, 2, "1 a0 1"},
		{"a0", 0, 1, "1 a0 0"}, {"a0", 0, 2, "1 a0 1"}, {"a0*", 0, 3, "1 a0 0 a0 0"}, {"(a0 + a1)*", 0, 3, "1 a0 0 a0 0"}, {"(a0 (a0 + a1))", 0, 2, "1 a0 1 a0 1"},
		{"(a0 a1)", 0, 3, "1 a0 1 a1 0"}, {"(a0 + a1)*", 3, 0, ""}, {"(a0 + a1)*", 3, 3, "0"}, {"((a0 + a1) (a0 + a1)*)", 3, 3, "0 a1 1 a1 0"}, {"(a1 + (a0 a1))", 2, 3, "1 a1 0"},
		{"((a1 a0) + (a0 a1))", 2, 3, "1 a0 1 a1 0"}, {"((a1 a0) + (a0 a1))", 2, 2, "1 a0 1 a1 1"}, {"(a1 a0)", 2, 2, "1 a1 1 a0 1"}, {"(a1 a1)", 2, 2, "1 a1 0 a1 1"},
		{"((a0 a0) a0)", 0, 3, ""}, {"0", 0, 0, ""}, {"a0", 1, 0, ""}, {"t0", 1, 1, ""}, {"1", 0, 1, ""}, {"(a0 + (a1 0))", 3, 2, ""},
		{"(a0 (a0 + a1)*)", 0, 0, "1 a0 0 a1 1"}, {"((a0 (a0 + a1)) ((a0 + a1) (a0 + a1)*))", 0, 0, "1 a0 0 a1 1 a0 0 a1 1"},
	}
	for _, row := range rows {
		w, code := impl.WitnessWord(m, mustExpr(t, sig12, row.text), row.x, row.y)
		wanted := impl.OK
		if row.word == "" {
			wanted = impl.ErrNotFound
		}
		want(t, row.text+" from "+digit(row.x)+" to "+digit(row.y), list(impl.WordText(sig12, w), code), list(row.word, wanted))
	}
	// A point may be come to by another word first, with another state.
	w, code := impl.WitnessWord(mustModel(t, "model 0 2 2", "act 01 10", "act 10 01"), mustExpr(t, impl.Sig{Actions: 2}, "((a0 a0) + (a1 (a1 a0)))"), 0, 1)
	want(t, "the later word", list(impl.WordText(impl.Sig{Actions: 2}, w), code), list("0 a1 0 a1 0 a0 0", impl.OK))
	// Points with one atom are come to together, and one of them leads on.
	w, code = impl.WitnessWord(mustModel(t, "model 1 2 5", "test 00010", "act 01110 00000 00001 00001 00000", "act 00000 00000 00000 00000 00000"), mustExpr(t, sig12, "(a0 a0)"), 0, 4)
	want(t, "by the second point", list(impl.WordText(sig12, w), code), list("0 a0 0 a0 0", impl.OK))
}

// TestWitnessWordLimits: a word of MaxWord actions is told, a longer one is not.
func TestWitnessWordLimits(t *testing.T) {
	loop := mustModel(t, "model 0 1 1", "act 1")
	for n, wanted := range map[int]int{9: impl.OK, 10: impl.OK, 11: impl.ErrLimit, 12: impl.ErrLimit, 59: impl.ErrLimit} {
		w, code := impl.WitnessWord(loop, mustExpr(t, sig01, balanced(n, "a0", " ")), 0, 0)
		want(t, "a long word", list(len(w.Acts), code), list(n*one01(wanted == impl.OK), wanted))
	}
	ring := mustModel(t, "model 1 1 8", "test 00000001", "act 01000000 00100000 00010000 00001000 00000100 00000010 00000001 10000000")
	for step, row := range map[int]map[int64]int{ // how many actions lead from 0 to some points by so many at once
		2: {0: 0, 2: 2, 6: 6, 1: -1, 7: -1}, 3: {0: 0, 3: 3, 6: 6, 1: 9, 4: 12, 7: 15, 2: 18, 5: 21}, 5: {5: 5, 2: 10, 7: 15, 3: 35}, 10: {2: 10, 4: 20, 1: -1}, 11: {0: 0, 3: 11, 6: 22},
	} {
		for y, actions := range row {
			w, code := impl.WitnessWord(ring, mustExpr(t, sig11, balanced(step, "a0", " ")+"*"), 0, y)
			wanted := list(actions, impl.OK)
			if actions < 0 {
				wanted = list(0, impl.ErrNotFound)
			} else if actions > impl.MaxWord {
				wanted = list(0, impl.ErrLimit)
			}
			want(t, "round by "+digit(int64(step))+" to "+digit(y), list(len(w.Acts), code), wanted)
		}
	}
	nowhere := mustModel(t, "model 1 1 2", "test 10", "act 00 00")
	for name, text := range beyondStates {
		_, first := impl.WitnessWord(nowhere, mustExpr(t, sig11, text), 0, 1)
		_, second := impl.WitnessWord(nowhere, mustExpr(t, sig11, text), 0, 2)
		want(t, name, list(first, second), list(impl.ErrLimit, impl.ErrRange))
	}
	beyond := mustExpr(t, sig11, beyondStates["61 states"])
	for _, x := range []int64{math.MinInt64, -1, 8, math.MaxInt64} {
		w, first := impl.WitnessWord(ring, beyond, x, 0)
		v, second := impl.WitnessWord(ring, beyond, 0, x)
		want(t, "no point", list(w, first, v, second), list(impl.Word{}, impl.ErrRange, impl.Word{}, impl.ErrRange))
	}
}

func TestFirstPair(t *testing.T) {
	m := mustModel(t, "model 1 2 3", "test 101", "act 010 001 000", "act 010 000 100")
	rows := []struct {
		text string
		x, y int64
		left bool
	}{
		{"a0 = 0", 0, 1, true}, {"0 = a0", 0, 1, false}, {"a0 = a1", 1, 2, true}, {"a1 = a0", 1, 2, false}, {"1 = 0", 0, 0, true}, {"t0 = 1", 1, 1, false}, {"~t0 = 0", 1, 1, true},
		{"t0 = ~t0", 0, 0, true}, {"(a0 a1) = a1", 0, 1, false}, {"(a0* a1) = (a1 + (a0 (a0 a1)))", 1, 0, true}, {"a1* = (1 + a1)", 2, 1, true}, {"(a0 + a1)* = a0*", 1, 0, true},
		{"(a0 + a1) = (a1 + (a0 ~t0))", 1, 2, true}, {"1 = (1 + (a1 (t0 a0)))", 2, 1, false}, {"(a0 + a1) = (a0 + (~t0 a1))", 2, 0, true},
	}
	for _, row := range rows {
		x, y, left, code := impl.FirstPair(m, mustEquation(t, sig12, row.text))
		want(t, row.text, list(x, y, left, code), list(row.x, row.y, row.left, impl.OK))
		yes, code := impl.HoldsIn(m, mustEquation(t, sig12, row.text))
		want(t, row.text, list(yes, code), list(false, impl.OK))
	}
	// Equations that hold, although some of them do not hold everywhere.
	for _, text := range []string{"0 = 0", "a0 = a0", "((a0 a0) a0) = 0", "(a0 ~t0) = (a1 ~t0)", "(a1 a0) = ((a0 a0) + (a1 a1))", "(t0 a0) = (a0 ~t0)", "(a0 + a1)* = (a1* (a0 a1*)*)"} {
		q := mustEquation(t, sig12, text)
		x, y, left, first := impl.FirstPair(m, q)
		yes, second := impl.HoldsIn(m, q)
		want(t, text, list(x, y, left, first, yes, second), list(0, 0, false, impl.ErrNotFound, true, impl.OK))
	}
}

// TestModelErrors: models, expressions, equations and words that are not valid,
// before what is no point and no set.
func TestModelErrors(t *testing.T) {
	good := randomModel(rand.New(rand.NewSource(86)), sig22, 3)
	check := func(name string, m impl.Model, e impl.Expr, w impl.Word) {
		t.Helper()
		q, p := impl.Equation{Left: e, Right: one}, impl.Equation{Left: one, Right: e}
		if !impl.ValidModel(m) || impl.ValidExpr(m.Sig, one) && !impl.ValidExpr(m.Sig, e) {
			pairs, first := impl.RelationOf(m, e)
			yes, second := impl.HoldsIn(m, q)
			no, third := impl.HoldsIn(m, p)
			want(t, name, list(pairs, first, yes, second, no, third), list([][]bool{}, impl.ErrInvalid, false, impl.ErrInvalid, false, impl.ErrInvalid))
			x, y, left, first := impl.FirstPair(m, q)
			u, v, right, second := impl.FirstPair(m, p)
			want(t, name, list(x, y, left, first, u, v, right, second), list(0, 0, false, impl.ErrInvalid, 0, 0, false, impl.ErrInvalid))
			for _, i := range []int64{0, 99} {
				found, first := impl.WitnessWord(m, e, i, 0)
				image, second := impl.ImageOf(m, e, []int64{i})
				safe, third := impl.SafeBefore(m, e, []int64{i})
				want(t, name, list(found, first, image, second, safe, third), list(impl.Word{}, impl.ErrInvalid, []int64{}, impl.ErrInvalid, []int64{}, impl.ErrInvalid))
			}
		}
		if !impl.ValidModel(m) || !impl.ValidWord(m.Sig, w) {
			runs, code := impl.RunsOf(m, w)
			want(t, name, list(runs, code), list([][]bool{}, impl.ErrInvalid))
		}
	}
	for name, m := range badModels() {
		check(name, m, one, impl.Word{Atoms: []int64{0}})
		check(name, m, act(0), impl.Word{})
	}
	for name, e := range badExprs() {
		check(name, good, e, impl.Word{Atoms: []int64{0}})
	}
	for name, w := range badWords() {
		check(name, randomModel(rand.New(rand.NewSource(87)), sig12, 2), one, w)
	}
	check("a test of another signature", mustModel(t, "model 0 1 1", "act 1"), test(0), impl.Word{Atoms: []int64{1}})
	check("an action of another signature", mustModel(t, "model 1 0 1", "test 1"), act(0), impl.Word{Atoms: []int64{0, 0}, Acts: []int64{0}})
	for _, set := range [][]int64{{3}, {-1}, {0, 0}, {1, 0}, {0, 2, 1}, {0, 1, 2, 2}, {0, 1, 2, 3}, {math.MinInt64}, {0, math.MaxInt64}, {2, 0}, make([]int64, 900)} {
		image, first := impl.ImageOf(good, act(0), set)
		safe, second := impl.SafeBefore(good, act(0), set)
		want(t, "no set", list(image, first, safe, second), list([]int64{}, impl.ErrRange, []int64{}, impl.ErrRange))
	}
}
