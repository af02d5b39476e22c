package tests

import (
	"math"
	"math/rand"
	"slices"
	"strings"
	"testing"

	"loop.example/g01101/impl"
)

// This file has the definitions of chapter 5, word for word, and makers of
// models and costs.

// mustModel reads a model, of which each argument is one line.
func mustModel(t *testing.T, lines ...string) impl.Model {
	t.Helper()
	m, code := impl.ReadModel(strings.Join(lines, "\n") + "\n")
	if code != impl.OK {
		t.Fatalf("ReadModel of %v: code %d", lines, code)
	}
	return m
}

// marks is the word of a row.
func marks(row []bool) string {
	word := ""
	for _, mark := range row {
		word += digit(int64(one01(mark)))
	}
	return word
}

// marksOf are the words of a table, which is shorter to read.
func marksOf(rows [][]bool) string {
	words := []string{}
	for _, row := range rows {
		words = append(words, marks(row))
	}
	return strings.Join(words, " ")
}

// modelByTable is the text of a model, valid or not.
func modelByTable(m impl.Model) string {
	text := "model " + digit(m.Sig.Tests) + " " + digit(m.Sig.Actions) + " " + digit(m.Points) + "\n"
	for _, row := range m.Tests {
		text += "test " + marks(row) + "\n"
	}
	for _, rows := range m.Acts {
		text += "act " + marksOf(rows) + "\n"
	}
	return text
}

// tableBy returns a table of points.
func tableBy[T any](points int64, at func(x, y int64) T) [][]T {
	table := [][]T{}
	for x := range points {
		row := []T{}
		for y := range points {
			row = append(row, at(x, y))
		}
		table = append(table, row)
	}
	return table
}

// atomByTable is the atom of a point.
func atomByTable(tests [][]bool, x int64) int64 {
	atom := int64(0)
	for i, row := range tests {
		atom += int64(one01(row[x])) << i
	}
	return atom
}

// relationByTable is the relation of an expression.
func relationByTable(m impl.Model, e impl.Expr) [][]bool {
	kids := [][][]bool{}
	for _, kid := range e.Kids {
		kids = append(kids, relationByTable(m, kid))
	}
	return tableBy(m.Points, func(x, y int64) bool {
		switch e.Kind {
		case impl.EOne:
			return x == y
		case impl.ETest:
			return x == y && m.Tests[e.Num][x]
		case impl.EAct:
			return m.Acts[e.Num][x][y]
		case impl.ENot:
			return x == y && !kids[0][x][x]
		case impl.ESum:
			return kids[0][x][y] || kids[1][x][y]
		case impl.EDot:
			for z := range m.Points {
				if kids[0][x][z] && kids[1][z][y] {
					return true
				}
			}
		case impl.EStar:
			return slices.Contains(reachedFrom(kids[0], x), y)
		}
		return false
	})
}

// reachedFrom are the points to which a relation leads by any number of steps.
func reachedFrom(pairs [][]bool, x int64) []int64 {
	list := []int64{x}
	for i := 0; i < len(list); i++ {
		for y, leads := range pairs[list[i]] {
			if leads && !slices.Contains(list, int64(y)) {
				list = append(list, int64(y))
			}
		}
	}
	return list
}

// runsByTable is the relation of a word.
func runsByTable(m impl.Model, w impl.Word) [][]bool {
	var leads func(place int, x, y int64) bool
	leads = func(place int, x, y int64) bool {
		if atomByTable(m.Tests, x) != w.Atoms[place] {
			return false
		}
		if place == len(w.Acts) {
			return x == y
		}
		for z := range m.Points {
			if m.Acts[w.Acts[place]][x][z] && leads(place+1, z, y) {
				return true
			}
		}
		return false
	}
	return tableBy(m.Points, func(x, y int64) bool { return leads(0, x, y) })
}

// firstPairByTable is the first pair of one side alone, if there is one.
func firstPairByTable(m impl.Model, q impl.Equation) []any {
	left, right := relationByTable(m, q.Left), relationByTable(m, q.Right)
	for x := range m.Points {
		for y := range m.Points {
			if left[x][y] != right[x][y] {
				return list(x, y, left[x][y], impl.OK)
			}
		}
	}
	return list(0, 0, false, impl.ErrNotFound)
}

// modelByNumber is the model with so many points and a number.
func modelByNumber(g impl.Sig, points int64, number int64) impl.Model {
	m := impl.Model{Sig: g, Points: points}
	next := func() bool {
		bit := number % 2
		number /= 2
		return bit == 1
	}
	for range g.Tests {
		row := []bool{}
		for range points {
			row = append(row, next())
		}
		m.Tests = append(m.Tests, row)
	}
	for range g.Actions {
		m.Acts = append(m.Acts, tableBy(points, func(x, y int64) bool { return next() }))
	}
	return m
}

// bitsBy is how many bits a model has.
func bitsBy(g impl.Sig, points int64) int64 { return points * (g.Tests + points*g.Actions) }

// firstModelByTable is the first model in which an equation does not hold.
func firstModelByTable(g impl.Sig, q impl.Equation, points int64) (impl.Model, int) {
	for n := int64(1); n <= points; n++ {
		for number := range int64(1) << bitsBy(g, n) {
			m := modelByNumber(g, n, number)
			if marksOf(relationByTable(m, q.Left)) != marksOf(relationByTable(m, q.Right)) {
				return m, impl.OK
			}
		}
	}
	return impl.Model{}, impl.ErrNotFound
}

// randomModel returns a model whose actions are rare or frequent.
func randomModel(r *rand.Rand, g impl.Sig, points int64) impl.Model {
	m := impl.Model{Sig: g, Points: points}
	for range g.Tests {
		row := []bool{}
		for range points {
			row = append(row, r.Intn(2) == 0)
		}
		m.Tests = append(m.Tests, row)
	}
	rare := 2 + r.Intn(4)
	for range g.Actions {
		m.Acts = append(m.Acts, tableBy(points, func(x, y int64) bool { return r.Intn(rare) == 0 }))
	}
	return m
}

// randomSet returns a set of points.
func randomSet(r *rand.Rand, points int64) []int64 {
	set := []int64{}
	for x := range points {
		if r.Intn(2) == 0 {
			set = append(set, x)
		}
	}
	return set
}

// badModels are models that are not valid: in each of them one thing is wrong
// with a valid model of three points, for two tests and two actions.
func badModels() map[string]impl.Model {
	bad := map[string]impl.Model{}
	change := func(name string, f func(m *impl.Model)) {
		m := randomModel(rand.New(rand.NewSource(1)), sig22, 3)
		f(&m)
		bad[name] = m
	}
	change("zero", func(m *impl.Model) { *m = impl.Model{} })
	for _, points := range []int64{math.MinInt64, -1, 0, 2, 4, 8, 9, math.MaxInt64} {
		change(digit(points)+" points", func(m *impl.Model) { m.Points = points })
	}
	for i, g := range append([]impl.Sig{sig00, sig12, {Tests: 2, Actions: 1}, {Tests: 3, Actions: 2}, {Tests: 2, Actions: 3}}, badSigs...) {
		change("signature "+digit(int64(i)), func(m *impl.Model) { m.Sig = g })
	}
	change("no tests", func(m *impl.Model) { m.Tests = nil })
	change("a test too few", func(m *impl.Model) { m.Tests = m.Tests[:1] })
	change("a test too many", func(m *impl.Model) { m.Tests = append(m.Tests, m.Tests[0]) })
	change("no actions", func(m *impl.Model) { m.Acts = nil })
	change("an action too few", func(m *impl.Model) { m.Acts = m.Acts[:1] })
	change("an action too many", func(m *impl.Model) { m.Acts = append(m.Acts, m.Acts[0]) })
	for i := range 2 {
		of := " of " + digit(int64(i))
		change("no points of a test"+of, func(m *impl.Model) { m.Tests[i] = nil })
		change("a test with a point too few"+of, func(m *impl.Model) { m.Tests[i] = m.Tests[i][:2] })
		change("a test with a point too many"+of, func(m *impl.Model) { m.Tests[i] = append(m.Tests[i], true) })
		change("no rows"+of, func(m *impl.Model) { m.Acts[i] = nil })
		change("a row too few"+of, func(m *impl.Model) { m.Acts[i] = m.Acts[i][:2] })
		change("a row too many"+of, func(m *impl.Model) { m.Acts[i] = append(m.Acts[i], m.Acts[i][0]) })
		for x := range 3 {
			from := of + " from " + digit(int64(x))
			change("no columns"+from, func(m *impl.Model) { m.Acts[i][x] = nil })
			change("a column too few"+from, func(m *impl.Model) { m.Acts[i][x] = m.Acts[i][x][:2] })
			change("a column too many"+from, func(m *impl.Model) { m.Acts[i][x] = append(m.Acts[i][x], false) })
		}
	}
	bad["no points at all"] = impl.Model{Sig: sig01, Acts: [][][]bool{{}}}
	bad["9 points"] = randomModel(rand.New(rand.NewSource(2)), sig11, 9)
	bad["9 points alone"] = impl.Model{Points: 9}
	bad["4 tests"] = randomModel(rand.New(rand.NewSource(3)), impl.Sig{Tests: 4}, 1)
	bad["5 actions"] = randomModel(rand.New(rand.NewSource(4)), impl.Sig{Actions: 5}, 1)
	return bad
}

// costsBy are what an expression costs, by the table: without a limit, for
// which a valid expression is too small.
func costsBy(c impl.Costs, e impl.Expr) [][]int64 {
	kids := [][][]int64{}
	for _, kid := range e.Kids {
		kids = append(kids, costsBy(c, kid))
	}
	stay := func(x, y int64) int64 {
		if x == y && emptyIn(e, atomByTable(c.Tests, x)) {
			return 0
		}
		return impl.Far
	}
	return tableBy(c.Points, func(x, y int64) int64 {
		switch e.Kind {
		case impl.EAct:
			return c.Acts[e.Num][x][y]
		case impl.ESum:
			return leastCost(kids[0][x][y], kids[1][x][y])
		case impl.EDot:
			ways := []int64{}
			for z := range c.Points {
				ways = append(ways, sumCost(kids[0][x][z], kids[1][z][y]))
			}
			return leastCost(ways...)
		case impl.EStar:
			return cheapestWays(kids[0], x)[y]
		}
		return stay(x, y)
	})
}

// leastCost is the least one of some costs.
func leastCost(costs ...int64) int64 {
	least := int64(impl.Far)
	for _, cost := range costs {
		if cost != impl.Far && (least == impl.Far || cost < least) {
			least = cost
		}
	}
	return least
}

// sumCost is the sum of two costs.
func sumCost(a, b int64) int64 {
	if a == impl.Far || b == impl.Far {
		return impl.Far
	}
	return a + b
}

// cheapestWays are what the cheapest ways from a point to all points cost.
func cheapestWays(steps [][]int64, from int64) []int64 {
	costs := slices.Repeat([]int64{impl.Far}, len(steps))
	costs[from] = 0
	for range steps {
		for x, row := range steps {
			for y, cost := range row {
				costs[y] = leastCost(costs[y], sumCost(costs[x], cost))
			}
		}
	}
	return costs
}

// costOfWord is what the cheapest run of a word from x costs, to each point.
func costOfWord(c impl.Costs, w impl.Word, x int64) []int64 {
	costs := slices.Repeat([]int64{impl.Far}, int(c.Points))
	if atomByTable(c.Tests, x) == w.Atoms[0] {
		costs[x] = 0
	}
	for i, act := range w.Acts {
		next := slices.Repeat([]int64{impl.Far}, int(c.Points))
		for y := range c.Points {
			for z := range c.Points {
				if atomByTable(c.Tests, y) == w.Atoms[i+1] {
					next[y] = leastCost(next[y], sumCost(costs[z], c.Acts[act][z][y]))
				}
			}
		}
		costs = next
	}
	return costs
}

// randomCosts returns costs of which some are Far, 0, or as great as may be.
func randomCosts(r *rand.Rand, g impl.Sig, points int64) impl.Costs {
	m := randomModel(r, g, points)
	c := impl.Costs{Sig: g, Points: points, Tests: m.Tests}
	for _, rows := range m.Acts {
		c.Acts = append(c.Acts, tableBy(points, func(x, y int64) int64 {
			if !rows[x][y] {
				return impl.Far
			}
			return []int64{0, 1, impl.MaxCost, r.Int63n(8), r.Int63n(impl.MaxCost + 1)}[r.Intn(5)]
		}))
	}
	return c
}

// badCosts are costs that are not valid: in each of them one thing is wrong.
func badCosts() map[string]impl.Costs {
	bad := map[string]impl.Costs{}
	for name, m := range badModels() {
		c := impl.Costs{Sig: m.Sig, Points: m.Points, Tests: m.Tests}
		for _, rows := range m.Acts {
			table := [][]int64{}
			for _, row := range rows {
				table = append(table, make([]int64, len(row)))
			}
			c.Acts = append(c.Acts, table)
		}
		bad[name] = c
	}
	for a := range 2 {
		for x := range 3 {
			for y := range 3 {
				for _, cost := range []int64{math.MinInt64, -2, 1001, math.MaxInt64} {
					c := randomCosts(rand.New(rand.NewSource(5)), sig22, 3)
					c.Acts[a][x][y] = cost
					bad["cost "+digit(cost)+" at "+digit(int64(9*a+3*x+y))] = c
				}
			}
		}
	}
	return bad
}
