package tests

import (
	"math"
	"math/rand"
	"slices"
	"strings"
	"testing"

	"loop.example/g01101/impl"
)

// This file tests models that are made of others, and images and safe points:
// promise 13.

// oneLine is the text of a model in one line, empty if it is not valid.
func oneLine(m impl.Model) string {
	return strings.ReplaceAll(strings.TrimSuffix(impl.ModelText(m), "\n"), "\n", " ")
}

func TestJoinModels(t *testing.T) {
	a := mustModel(t, "model 2 1 2", "test 10", "test 11", "act 01 00")
	b := mustModel(t, "model 2 1 3", "test 001", "test 010", "act 100 101 011")
	rows := []struct {
		a, b impl.Model
		text string
	}{
		{a, b, "model 2 1 5 test 10001 test 11010 act 01000 00000 00100 00101 00011"}, {b, a, "model 2 1 5 test 00110 test 01011 act 10000 10100 01100 00001 00000"},
		{a, a, "model 2 1 4 test 1010 test 1111 act 0100 0000 0001 0000"}, {impl.Model{Points: 1}, impl.Model{Points: 7}, "model 0 0 8"},
		{mustModel(t, "model 0 1 1", "act 1"), mustModel(t, "model 0 1 1", "act 0"), "model 0 1 2 act 10 00"}, {mustModel(t, "model 1 2 1", "test 0", "act 0", "act 1"), mustModel(t, "model 1 2 1", "test 1", "act 1", "act 0"), "model 1 2 2 test 01 act 00 01 act 10 00"},
	}
	for _, row := range rows {
		m, code := impl.JoinModels(row.a, row.b)
		want(t, "joined", list(oneLine(m), code), list(row.text, impl.OK))
	}
	r := rand.New(rand.NewSource(100))
	for n := int64(1); n <= 8; n++ {
		for k := int64(1); k <= 8; k++ {
			m, code := impl.JoinModels(randomModel(r, sig12, n), randomModel(r, sig12, k))
			want(t, digit(n)+" and "+digit(k)+" points", list(m.Points, impl.ValidModel(m), code), list((n+k)*int64(one01(n+k <= 8)), n+k <= 8, impl.ErrLimit*one01(n+k > 8)))
		}
	}
	for _, g := range []impl.Sig{sig00, sig11, sig12, {Tests: 1}, {Tests: 2}, {Tests: 3, Actions: 1}} {
		for _, points := range []int64{1, 8} {
			m, first := impl.JoinModels(a, randomModel(r, g, points))
			n, second := impl.JoinModels(randomModel(r, g, points), a)
			want(t, "another signature", list(m, first, n, second), list(impl.Model{}, impl.ErrRange, impl.Model{}, impl.ErrRange))
		}
	}
	for name, bad := range badModels() {
		for _, good := range []impl.Model{a, randomModel(r, sig22, 1), randomModel(r, sig22, 8), bad} {
			m, first := impl.JoinModels(bad, good)
			n, second := impl.JoinModels(good, bad)
			want(t, name, list(m, first, n, second), list(impl.Model{}, impl.ErrInvalid, impl.Model{}, impl.ErrInvalid))
		}
	}
}

func TestRenumberModel(t *testing.T) {
	m := mustModel(t, "model 2 2 3", "test 100", "test 011", "act 010 001 000", "act 100 000 110")
	for text, order := range map[string][]int64{
		"model 2 2 3 test 100 test 011 act 010 001 000 act 100 000 110": {0, 1, 2},
		"model 2 2 3 test 010 test 101 act 001 100 000 act 000 010 110": {1, 0, 2},
		// The first point is the last one of m: other than by the opposite order.
		"model 2 2 3 test 010 test 101 act 000 001 100 act 011 010 000": {2, 0, 1},
		"model 2 2 3 test 001 test 110 act 010 000 100 act 000 101 001": {1, 2, 0},
		"model 2 2 3 test 001 test 110 act 000 100 010 act 011 000 001": {2, 1, 0},
	} {
		n, code := impl.RenumberModel(m, order)
		want(t, "in another order", list(oneLine(n), code), list(text, impl.OK))
	}
	for _, order := range [][]int64{nil, {}, {0}, {0, 1}, {1, 2}, {0, 1, 1}, {0, 0, 0}, {2, 1, 2}, {0, 1, 3}, {1, 2, 3}, {-1, 0, 1}, {0, 1, 2, 2}, {0, 1, 2, 3}, {0, 1, 2, -1}, {0, 0, 1, 2},
		{math.MinInt64, 0, 1}, {0, math.MaxInt64, 1}, make([]int64, 900)} {
		n, code := impl.RenumberModel(m, order)
		want(t, "no order", list(n, code), list(impl.Model{}, impl.ErrRange))
	}
	for name, bad := range badModels() {
		for _, order := range [][]int64{{0, 1, 2}, {0}, nil} {
			n, code := impl.RenumberModel(bad, order)
			want(t, name, list(n, code), list(impl.Model{}, impl.ErrInvalid))
		}
	}
}

func TestRestrictModel(t *testing.T) {
	m := mustModel(t, "model 2 2 4", "test 1001", "test 0110", "act 0100 0010 0001 1000", "act 1000 0000 1101 0001")
	for text, set := range map[string][]int64{
		"model 2 2 4 test 1001 test 0110 act 0100 0010 0001 1000 act 1000 0000 1101 0001": {0, 1, 2, 3},
		"model 2 2 3 test 101 test 010 act 000 001 100 act 100 101 001":                   {0, 2, 3},
		"model 2 2 2 test 01 test 10 act 00 00 act 00 01":                                 {1, 3},
		"model 2 2 2 test 00 test 11 act 01 00 act 00 10":                                 {1, 2},
		"model 2 2 1 test 1 test 0 act 0 act 1":                                           {0}, "model 2 2 1 test 0 test 1 act 0 act 0": {1},
	} {
		n, code := impl.RestrictModel(m, set)
		want(t, "some points", list(oneLine(n), code), list(text, impl.OK))
	}
	for _, set := range [][]int64{nil, {}, {4}, {-1}, {0, 0}, {1, 0}, {3, 2, 1, 0}, {0, 1, 1}, {0, 2, 1}, {0, 1, 2, 3, 4}, {0, 1, 2, 3, 3}, {math.MinInt64}, {0, math.MaxInt64}, make([]int64, 900)} {
		n, code := impl.RestrictModel(m, set)
		want(t, "no set", list(n, code), list(impl.Model{}, impl.ErrRange))
	}
	for name, bad := range badModels() {
		for _, set := range [][]int64{{0}, {0, 1}, {5}, nil} {
			n, code := impl.RestrictModel(bad, set)
			want(t, name, list(n, code), list(impl.Model{}, impl.ErrInvalid))
		}
	}
}

// relation is RelationOf, whose code has to be OK.
func relation(t *testing.T, m impl.Model, e impl.Expr) [][]bool {
	t.Helper()
	pairs, code := impl.RelationOf(m, e)
	if code != impl.OK {
		t.Fatalf("RelationOf of %s: code %d", textOf(e), code)
	}
	return pairs
}

// TestRelationsOfParts: models that are made of others have the relations of
// their parts.
func TestRelationsOfParts(t *testing.T) {
	r := rand.New(rand.NewSource(101))
	closed := 0
	for i := range 800 {
		g := []impl.Sig{sig12, sig11, sig22, {Tests: 2}, sig34}[i%5]
		a, b, e := randomModel(r, g, int64(1+i%4)), randomModel(r, g, int64(1+i%3)), randomExpr(r, g, 1+i%5)
		left, right := relation(t, a, e), relation(t, b, e)
		joined, first := impl.JoinModels(a, b)
		want(t, "joined", list(marksOf(relation(t, joined, e)), first), list(marksOf(tableBy(a.Points+b.Points, func(x, y int64) bool {
			if x < a.Points && y < a.Points {
				return left[x][y]
			}
			return x >= a.Points && y >= a.Points && right[x-a.Points][y-a.Points]
		})), impl.OK))
		firsts, lasts := []int64{}, []int64{}
		for x := range joined.Points {
			if x < a.Points {
				firsts = append(firsts, x)
			} else {
				lasts = append(lasts, x)
			}
		}
		part, first := impl.RestrictModel(joined, firsts)
		rest, second := impl.RestrictModel(joined, lasts)
		want(t, "taken apart", list(impl.SameModel(part, a), first, impl.SameModel(rest, b), second), list(true, impl.OK, true, impl.OK))

		order := []int64{}
		for _, x := range r.Perm(int(joined.Points)) {
			order = append(order, int64(x))
		}
		back := make([]int64, len(order))
		for i, x := range order {
			back[x] = int64(i)
		}
		whole := relation(t, joined, e)
		other, first := impl.RenumberModel(joined, order)
		again, second := impl.RenumberModel(other, back)
		want(t, "renumbered", list(marksOf(relation(t, other, e)), first, impl.SameModel(again, joined), second),
			list(marksOf(tableBy(joined.Points, func(x, y int64) bool { return whole[order[x]][order[y]] })), impl.OK, true, impl.OK))

		set := randomSet(r, joined.Points)
		if len(set) == 0 {
			continue
		}
		some, code := impl.RestrictModel(joined, set)
		want(t, "restricted", list(some.Points, code), list(len(set), impl.OK))
		isClosed := true
		for _, rows := range joined.Acts {
			for _, x := range set {
				for y, leads := range rows[x] {
					isClosed = isClosed && (!leads || slices.Contains(set, int64(y)))
				}
			}
		}
		closed += one01(isClosed)
		for x, row := range relation(t, some, e) {
			for y, leads := range row {
				if before := whole[set[x]][set[y]]; leads && !before || isClosed && leads != before {
					t.Errorf("%s from %d to %d of %v in %s", textOf(e), x, y, set, modelByTable(joined))
				}
			}
		}
		for i := range g.Actions {
			want(t, "actions of some points", marksOf(relation(t, some, act(i))), marksOf(tableBy(some.Points, func(x, y int64) bool { return joined.Acts[i][set[x]][set[y]] })))
		}
		for i := range g.Tests {
			want(t, "tests of some points", marksOf(relation(t, some, test(i))), marksOf(tableBy(some.Points, func(x, y int64) bool { return x == y && joined.Tests[i][set[x]] })))
		}
	}
	if closed < 100 {
		t.Errorf("only %d sets are closed", closed)
	}
}

func TestImageAndSafe(t *testing.T) {
	m := mustModel(t, "model 1 2 4", "test 1100", "act 0110 0001 0000 1000", "act 0000 0100 0001 0000")
	rows := []struct {
		text        string
		set         []int64
		image, safe []int64
	}{
		{"a0", nil, nil, []int64{2}}, {"a0", []int64{0}, []int64{1, 2}, []int64{2, 3}}, {"a0", []int64{1}, []int64{3}, []int64{2}}, {"a0", []int64{2}, nil, []int64{2}}, {"a0", []int64{3}, []int64{0}, []int64{1, 2}},
		{"a0", []int64{1, 2}, []int64{3}, []int64{0, 2}}, {"a0", []int64{0, 1, 2, 3}, []int64{0, 1, 2, 3}, []int64{0, 1, 2, 3}}, {"0", []int64{0, 3}, nil, []int64{0, 1, 2, 3}}, {"0", nil, nil, []int64{0, 1, 2, 3}},
		{"1", []int64{0, 3}, []int64{0, 3}, []int64{0, 3}}, {"1", nil, nil, nil}, {"t0", []int64{1, 2}, []int64{1}, []int64{1, 2, 3}}, {"~t0", nil, nil, []int64{0, 1}}, {"a1*", []int64{2}, []int64{2, 3}, nil},
		{"a1*", []int64{3}, []int64{3}, []int64{3}}, {"a1*", []int64{2, 3}, []int64{2, 3}, []int64{2, 3}}, {"a0*", []int64{0}, []int64{0, 1, 2, 3}, nil}, {"a0*", []int64{2}, []int64{2}, []int64{2}},
		{"(a0 + a1)", []int64{1, 3}, []int64{0, 1, 3}, []int64{1, 2}}, {"(a0 t0)", []int64{0}, []int64{1}, []int64{1, 2, 3}}, {"(t0 a0)", []int64{1, 3}, []int64{3}, []int64{1, 2, 3}},
	}
	for _, row := range rows {
		image, first := impl.ImageOf(m, mustExpr(t, sig12, row.text), row.set)
		safe, second := impl.SafeBefore(m, mustExpr(t, sig12, row.text), row.set)
		want(t, row.text+" with "+strings.Join(numbersText(row.set), ","), list(image, first, safe, second), list(row.image, impl.OK, row.safe, impl.OK))
	}
	eight := mustModel(t, "model 0 1 8", "act 00000001 00000000 00000000 00000000 00000000 00000000 00000000 11111111")
	image, first := impl.ImageOf(eight, act(0), []int64{7})
	safe, second := impl.SafeBefore(eight, act(0), []int64{7})
	want(t, "all points", list(image, first, safe, second), list([]int64{0, 1, 2, 3, 4, 5, 6, 7}, impl.OK, []int64{0, 1, 2, 3, 4, 5, 6}, impl.OK))
}

// TestImagesAndSafePoints: the image of a set lies in another one just if the
// set lies in the safe points of this one.
func TestImagesAndSafePoints(t *testing.T) {
	r := rand.New(rand.NewSource(102))
	isIn := func(set, other []int64) bool {
		return !slices.ContainsFunc(set, func(x int64) bool { return !slices.Contains(other, x) })
	}
	inside, outside := 0, 0
	for i := range 3000 {
		g := []impl.Sig{sig12, sig11, sig22, {Tests: 2}, sig34}[i%5]
		m, e := randomModel(r, g, int64(1+i%8)), randomExpr(r, g, 1+i%5)
		from, to := randomSet(r, m.Points), randomSet(r, m.Points)
		image, first := impl.ImageOf(m, e, from)
		safe, second := impl.SafeBefore(m, e, to)
		want(t, textOf(e), list(first, second, isIn(image, to)), list(impl.OK, impl.OK, isIn(from, safe)))
		inside, outside = inside+one01(isIn(image, to)), outside+one01(!isIn(image, to))
		back, third := impl.SafeBefore(m, e, image)
		want(t, "safe before the image", list(isIn(from, back), third), list(true, impl.OK))
		// A sequence goes on from the image of its first part.
		f := randomExpr(r, g, 2)
		later, _ := impl.ImageOf(m, f, image)
		both, _ := impl.ImageOf(m, tree(impl.EDot, e, f), from)
		before, _ := impl.SafeBefore(m, f, to)
		early, _ := impl.SafeBefore(m, e, before)
		whole, _ := impl.SafeBefore(m, tree(impl.EDot, e, f), to)
		want(t, "in turn", list(both, whole), list(later, early))
	}
	if inside < 800 || outside < 800 {
		t.Errorf("%d inside, %d outside", inside, outside)
	}
}
