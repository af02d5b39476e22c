package tests

import (
	"fmt"
	"math"
	"math/rand"
	"testing"

	"loop.example/g01101/impl"
)

// This file tests transformations: promises 15 and 22.

// transformText is what a rule makes of a node, as a text, and the code.
func transformText(g impl.Sig, p impl.Prog, path []int64, rule int64) (string, int64) {
	q, code := impl.Transform(g, p, path, rule)
	if code != impl.OK && !impl.SameProg(q, impl.Prog{}) {
		return "a program with an error", code
	}
	return impl.ProgText(g, q), code
}

// TestRules fills the texts of each rule by many conditions and programs.
func TestRules(t *testing.T) {
	r := rand.New(rand.NewSource(160))
	for i, texts := range ruleTexts[1:] {
		for range 200 {
			parts := map[string]string{}
			for _, letter := range []string{"B", "C"} {
				parts[letter] = textOf(randomCondition(r, sig22, 3))
			}
			for _, letter := range []string{"P", "Q", "R"} {
				parts[letter] = progByTable(randomProg(r, sig22, 1+r.Intn(3)))
			}
			p, wanted := mustProg(t, sig22, filledIn(texts[0], parts)), filledIn(texts[1], parts)
			if ruleOf(i+1) == impl.TrSkip && p.Kids[0].Kind == impl.PSkip {
				wanted = progByTable(p.Kids[1])
			}
			got, code := transformText(sig22, p, nil, ruleOf(i+1))
			want(t, "the rule "+texts[0]+" of "+progByTable(p), list(got, code), list(wanted, impl.OK))
		}
	}
}

// TestRulesThatDoNotFit has for each rule what is nearly the node.
func TestRulesThatDoNotFit(t *testing.T) {
	for rule, texts := range map[int64][]string{
		impl.TrUnroll: {"skip", "a0", "if t0 then a0 else skip fi", "{while t0 do a0 od; skip}"},
		impl.TrRoll: {"while t0 do a0 od", "if t0 then {a0; while t1 do a0 od} else skip fi", "if t0 then {a0; while ~~t0 do a0 od} else skip fi", "if (t0 t1) then {a0; while (t1 t0) do a0 od} else skip fi", "if t0 then {a0; while t0 do a1 od} else skip fi",
			"if t0 then {a0; while t0 do {a0; skip} od} else skip fi", "if t0 then {a0; while t0 do a0 od} else fail fi", "if t0 then {a0; while t0 do a0 od} else assert 1 fi", "if t0 then {while t0 do a0 od; a0} else skip fi", "if t0 then {a0; a0} else skip fi",
			"if t0 then while t0 do a0 od else skip fi", "if t0 then skip else {a0; while t0 do a0 od} fi", "if t0 then {a0; if t0 then a0 else a0 fi} else skip fi", "{if t0 then {a0; while t0 do a0 od} else skip fi; skip}"},
		impl.TrSame:   {"a0", "if t0 then a0 else a1 fi", "if t0 then skip else assert 1 fi", "if t0 then assert t0 else assert ~~t0 fi", "if t0 then {a0; a1} else {a1; a0} fi", "{a0; a0}", "if t0 then while t0 do a0 od else while t1 do a0 od fi"},
		impl.TrSwap:   {"skip", "while t0 do a0 od", "{if t0 then a0 else a1 fi; skip}", "assert t0"},
		impl.TrRight:  {"{a0; a1}", "{a0; {a1; a0}}", "{while t0 do {a0; a1} od; a0}", "if t0 then {a0; a1} else a0 fi"},
		impl.TrLeft:   {"{a0; a1}", "{{a0; a1}; a0}", "{a0; while t0 do {a0; a1} od}", "if t0 then a0 else {a0; a1} fi"},
		impl.TrSkip:   {"skip", "{a0; a1}", "{a0; fail}", "{assert 1; a0}", "{{skip; a0}; a1}", "{a0; {a1; skip}}", "if t0 then skip else a0 fi", "if t0 then a0 else skip fi", "while t0 do skip od"},
		impl.TrPush:   {"{a0; if t0 then a0 else a1 fi}", "{while t0 do a0 od; a1}", "if t0 then a0 else a1 fi", "{{if t0 then a0 else a1 fi; a0}; a1}", "{assert t0; a0}"},
		impl.TrPull:   {"if t0 then {a0; a1} else {a1; a0} fi", "if t0 then {a0; a1} else {a0; a0} fi", "if t0 then {a0; a1} else a1 fi", "if t0 then a1 else {a0; a1} fi", "{{a0; a1}; {a0; a1}}", "if t0 then {a0; assert t0} else {a0; assert t1} fi"},
		impl.TrFuse:   {"while t0 do a0 od", "while t0 do {while t1 do a0 od; a1} od", "while t0 do while t1 do a0 od od", "while t0 do {a0; {a1; while t1 do a0 od}} od", "while t0 do {a0; if t1 then a0 else a1 fi} od", "if t0 then {a0; while t1 do a0 od} else skip fi", "{a0; while t1 do a1 od}"},
		impl.TrTwice:  {"while t0 do a0 od", "while t0 do while t1 do a0 od od", "while t0 do while ~~t0 do a0 od od", "while t0 do {skip; while t0 do a0 od} od", "while t0 do if t0 then a0 else a0 fi od", "if t0 then while t0 do a0 od else while t0 do a0 od fi"},
		impl.TrAssert: {"assert t0", "{a0; assert t0}", "{skip; a0}", "{{assert t0; a0}; a0}", "while t0 do assert t0 od"},
		impl.TrDead: {"{while t0 do a0 od; if t1 then a0 else a1 fi}", "{while t0 do a0 od; if ~t0 then a0 else a1 fi}", "{if t0 then a0 else a1 fi; while t0 do a0 od}", "{while t0 do a0 od; while t0 do a0 od}", "{if t0 then a0 else a1 fi; if t0 then a0 else a1 fi}",
			"{while t0 do a0 od; {if t0 then a0 else a1 fi; skip}}", "{while t0 do a0 od; a1}", "while t0 do if t0 then a0 else a1 fi od"},
		impl.TrHead: {"while t0 do a0 od", "while t0 do {assert t1; a0} od", "while t0 do {assert ~~t0; a0} od", "while t0 do {a0; assert t0} od", "while t0 do assert t0 od", "while t0 do {{assert t0; a0}; a1} od", "while t0 do {skip; a0} od", "if t0 then {assert t0; a0} else skip fi"},
	} {
		for _, text := range texts {
			p := mustProg(t, sig22, text)
			got, code := transformText(sig22, p, []int64{}, rule)
			want(t, fmt.Sprint("rule ", rule, " of ", text), list(got, code), list("", impl.ErrNotFound))
			_, fits := transformed(p, rule)
			want(t, "by the table", fits, false)
		}
	}
	for text, wanted := range map[string]string{"{skip; skip}": "skip", "{skip; {a0; skip}}": "{a0; skip}", "{{skip; a0}; skip}": "{skip; a0}", "{{skip; skip}; skip}": "{skip; skip}", "{skip; {skip; skip}}": "{skip; skip}", "{skip; fail}": "fail", "{fail; skip}": "fail"} {
		got, code := transformText(sig22, mustProg(t, sig22, text), nil, impl.TrSkip)
		want(t, "both forms, "+text, list(got, code), list(wanted, impl.OK))
	}
}

// TestTransformPaths: a rule is applied to the node that the path leads to, and
// to no other one.
func TestTransformPaths(t *testing.T) {
	p := mustProg(t, sig22, "{while t0 do while t0 do a0 od od; if t1 then {skip; {a1; skip}} else {skip; a0} fi}")
	for _, row := range []struct {
		path []int64
		rule int64
		text string // or the code
	}{
		{[]int64{0}, impl.TrTwice, "{while t0 do a0 od; if t1 then {skip; {a1; skip}} else {skip; a0} fi}"},
		{[]int64{0}, impl.TrUnroll, "{if t0 then {while t0 do a0 od; while t0 do while t0 do a0 od od} else skip fi; if t1 then {skip; {a1; skip}} else {skip; a0} fi}"},
		{[]int64{0, 0}, impl.TrUnroll, "{while t0 do if t0 then {a0; while t0 do a0 od} else skip fi od; if t1 then {skip; {a1; skip}} else {skip; a0} fi}"},
		{[]int64{0, 0}, impl.TrTwice, "6"}, {[]int64{0, 0, 0}, impl.TrUnroll, "6"}, {[]int64{0, 0, 0, 0}, impl.TrUnroll, "2"}, {[]int64{}, impl.TrUnroll, "6"}, {nil, impl.TrPush, "6"}, {nil, impl.TrDead, "6"},
		{[]int64{1, 0}, impl.TrSkip, "{while t0 do while t0 do a0 od od; if t1 then {a1; skip} else {skip; a0} fi}"},
		{[]int64{1, 0, 1}, impl.TrSkip, "{while t0 do while t0 do a0 od od; if t1 then {skip; a1} else {skip; a0} fi}"},
		{[]int64{1, 1}, impl.TrSkip, "{while t0 do while t0 do a0 od od; if t1 then {skip; {a1; skip}} else a0 fi}"},
		{[]int64{1, 0}, impl.TrLeft, "{while t0 do while t0 do a0 od od; if t1 then {{skip; a1}; skip} else {skip; a0} fi}"},
		{[]int64{1}, impl.TrSwap, "{while t0 do while t0 do a0 od od; if ~t1 then {skip; a0} else {skip; {a1; skip}} fi}"},
		{[]int64{1}, impl.TrPull, "6"}, {[]int64{1, 0, 0}, impl.TrSkip, "6"}, {[]int64{1, 1, 1}, impl.TrSkip, "6"}, {[]int64{1, 1, 1, 0}, impl.TrSkip, "2"}, {[]int64{2}, impl.TrSkip, "2"}, {[]int64{-1}, impl.TrSkip, "2"},
		{[]int64{0, 1}, impl.TrUnroll, "2"}, {[]int64{1, 2}, impl.TrSkip, "2"}, {[]int64{1, 0, 0, 0}, impl.TrSkip, "2"}, {[]int64{math.MaxInt64}, impl.TrSkip, "2"}, {[]int64{math.MinInt64, 0}, impl.TrSkip, "2"},
		{[]int64{0}, 0, "2"}, {[]int64{0}, 15, "2"}, {[]int64{0}, -1, "2"}, {nil, math.MaxInt64, "2"}, {nil, math.MinInt64, "2"}, {[]int64{5}, 15, "2"},
	} {
		text, code := transformText(sig22, p, row.path, row.rule)
		if code != impl.OK {
			text += digit(code)
		}
		want(t, fmt.Sprint("rule ", row.rule, " at ", row.path), text, row.text)
	}
	got, code := transformText(sig22, mustProg(t, sig22, "{while t0 do a0 od; if t0 then a0 else a1 fi}"), nil, impl.TrDead)
	want(t, "the root", list(got, code), list("{while t0 do a0 od; a1}", impl.OK))
}

func TestTransformErrors(t *testing.T) {
	for name, p := range badProgs() {
		for _, rule := range []int64{0, impl.TrUnroll, impl.TrSkip, 15} {
			text, code := transformText(sig22, p, []int64{7}, rule)
			sites, second := impl.SitesOf(sig22, p, rule)
			want(t, name, list(text, code, sites, second), list("", impl.ErrInvalid, [][]int64{}, impl.ErrInvalid))
		}
	}
	for _, g := range badSigs {
		text, code := transformText(g, seq(skip, skip), nil, impl.TrSkip)
		sites, second := impl.SitesOf(g, seq(skip, skip), impl.TrSkip)
		want(t, "a bad signature", list(text, code, sites, second), list("", impl.ErrInvalid, [][]int64{}, impl.ErrInvalid))
	}
	for _, rule := range []int64{0, 15, -1, math.MaxInt64, math.MinInt64} {
		sites, code := impl.SitesOf(sig22, seq(skip, skip), rule)
		want(t, "no rule", list(sites, code), list([][]int64{}, impl.ErrRange))
	}
}

// TestTransformLimits: results that are just small enough, and those that are
// one node or one level too large, also of a condition.
func TestTransformLimits(t *testing.T) {
	twentyEight := while(one, evenly(14, do(0)))
	nodes := func(count int) impl.Expr { return mustExpr(t, sig12, balanced((count+1)/2, "t0", " ")) }
	levels := func(depth int) impl.Expr { return nested(impl.ENot, depth-1, test(0)) }
	for _, row := range []struct {
		name string
		p    impl.Prog
		path []int64
		rule int64
		code int
	}{
		{"60 nodes", while(test(0), twentyEight), nil, impl.TrUnroll, impl.OK},
		{"61 nodes", while(one, while(test(0), twentyEight)), []int64{0}, impl.TrUnroll, impl.ErrLimit},
		{"62 nodes", while(test(0), evenly(15, do(0))), nil, impl.TrUnroll, impl.ErrLimit},
		{"20 levels", loops(17, skip), nil, impl.TrUnroll, impl.OK},
		{"21 levels", loops(18, skip), nil, impl.TrUnroll, impl.ErrLimit},
		{"22 levels", loops(19, skip), []int64{0, 0, 0, 0, 0, 0, 0, 0, 0, 0, 0, 0, 0, 0, 0, 0, 0, 0}, impl.TrUnroll, impl.ErrLimit},
		{"21 levels of a third program", seq(seq(skip, skip), loops(18, skip)), nil, impl.TrRight, impl.ErrLimit},
		{"20 levels of a third program", seq(seq(skip, skip), loops(17, skip)), nil, impl.TrRight, impl.OK},
		{"21 levels of a first program", seq(loops(18, skip), seq(skip, skip)), nil, impl.TrLeft, impl.ErrLimit},
		{"20 levels that become less", seq(seq(loops(17, skip), skip), skip), nil, impl.TrRight, impl.OK},
		{"20 levels behind a choice", seq(ifThen(one, skip, skip), loops(17, skip)), nil, impl.TrPush, impl.OK},
		{"21 levels behind a choice", seq(ifThen(one, skip, skip), loops(18, skip)), nil, impl.TrPush, impl.ErrLimit},
		{"57 nodes behind a choice", seq(ifThen(one, skip, skip), while(one, evenly(13, skip))), nil, impl.TrPush, impl.OK},
		{"60 nodes behind a choice in a loop", while(one, seq(ifThen(one, skip, skip), evenly(14, skip))), []int64{0}, impl.TrPush, impl.OK},
		{"61 nodes behind a choice", seq(ifThen(one, skip, skip), twentyEight), nil, impl.TrPush, impl.ErrLimit},
		{"60 nodes fused", while(test(0), seq(evenly(14, do(0)), while(one, skip))), nil, impl.TrFuse, impl.OK},
		{"61 nodes fused", while(one, while(test(0), seq(evenly(14, do(0)), while(one, skip)))), []int64{0}, impl.TrFuse, impl.ErrLimit},
		{"a condition of 200 nodes", ifThen(nodes(199), skip, skip), nil, impl.TrSwap, impl.OK},
		{"a condition of 201 nodes", ifThen(tree(impl.ENot, nodes(199)), skip, skip), nil, impl.TrSwap, impl.ErrLimit},
		{"a condition of 40 levels", ifThen(levels(39), skip, skip), nil, impl.TrSwap, impl.OK},
		{"a condition of 41 levels", ifThen(levels(40), skip, skip), nil, impl.TrSwap, impl.ErrLimit},
		{"a sum of 200 nodes", while(nodes(99), seq(skip, while(tree(impl.ENot, nodes(99)), skip))), nil, impl.TrFuse, impl.OK},
		{"a sum of 201 nodes", while(tree(impl.ENot, nodes(99)), seq(skip, while(tree(impl.ENot, nodes(99)), skip))), nil, impl.TrFuse, impl.ErrLimit},
		{"a sum of 40 levels", while(test(0), seq(skip, while(levels(39), skip))), nil, impl.TrFuse, impl.OK},
		{"a sum of 41 levels", while(levels(40), seq(skip, while(test(0), skip))), nil, impl.TrFuse, impl.ErrLimit},
		{"60 nodes that stay so many", seq(assert(one), while(one, evenly(29, skip))), nil, impl.TrAssert, impl.OK},
	} {
		got, code := transformText(sig12, row.p, row.path, row.rule)
		want(t, row.name, code, row.code)
		part := row.p
		for _, i := range row.path {
			part = part.Kids[i]
		}
		by, _ := transformed(part, row.rule)
		result := changedProg(row.p, row.path, by)
		want(t, row.name+" by the table", impl.ValidProg(sig12, result), row.code == impl.OK)
		if row.code == impl.OK {
			want(t, row.name, got, progByTable(result))
		}
	}
	many := while(test(0), evenly(29, do(0)))
	sites, code := impl.SitesOf(sig12, many, impl.TrUnroll)
	text, second := transformText(sig12, many, nil, impl.TrUnroll)
	want(t, "a site whose result is too large", list(sites, code, text, second), list([][]int64{{}}, impl.OK, "", impl.ErrLimit))
}

// sitesByTable are the paths of all nodes that a rule fits.
func sitesByTable(p impl.Prog, rule int64) [][]int64 {
	sites := [][]int64{}
	for _, place := range progPlaces(p, nil) {
		if _, fits := transformed(place.part, rule); fits {
			sites = append(sites, place.path)
		}
	}
	return sites
}

func TestSitesOf(t *testing.T) {
	for _, row := range []struct {
		text  string
		rule  int64
		sites string
	}{
		{"skip", impl.TrSkip, "[]"}, {"{skip; skip}", impl.TrSkip, "[[]]"}, {"{{skip; skip}; {a0; skip}}", impl.TrSkip, "[[0] [1]]"}, {"{{skip; skip}; {skip; {a0; a1}}}", impl.TrLeft, "[[] [1]]"},
		{"while t0 do while t0 do while t0 do a0 od od od", impl.TrUnroll, "[[] [0] [0 0]]"}, {"while t0 do while t0 do while t0 do a0 od od od", impl.TrTwice, "[[] [0]]"},
		{"if t0 then if t1 then a0 else a0 fi else if t1 then a0 else a0 fi fi", impl.TrSame, "[[] [0] [1]]"}, {"if t0 then if t1 then a0 else a1 fi else if t1 then a1 else a1 fi fi", impl.TrSame, "[[1]]"},
		{"{if t0 then {a0; while t0 do a0 od} else skip fi; while t1 do a1 od}", impl.TrUnroll, "[[0 0 1] [1]]"}, {"{if t0 then {a0; while t0 do a0 od} else skip fi; while t1 do a1 od}", impl.TrRoll, "[[0]]"},
	} {
		sites, code := impl.SitesOf(sig22, mustProg(t, sig22, row.text), row.rule)
		want(t, "sites in "+row.text, list(fmt.Sprint(sites), code), list(row.sites, impl.OK))
	}
	r, counts := rand.New(rand.NewSource(161)), map[int64]int{}
	for i := range 2000 {
		p := randomProg(r, sig12, 1+r.Intn(5))
		if i%3 == 0 {
			p, _ = randomSite(t, r, sig12, 1+i/3%(len(ruleTexts)-1))
		}
		for rule := int64(1); rule <= 14; rule++ {
			sites, code := impl.SitesOf(sig12, p, rule)
			wanted := sitesByTable(p, rule)
			want(t, fmt.Sprint("rule ", rule, " in ", progByTable(p)), list(sites, code), list(wanted, []int{impl.OK, impl.ErrInvalid}[one01(!impl.ValidProg(sig12, p))]))
			counts[rule] += len(sites)
		}
	}
	for rule := int64(1); rule <= 14; rule++ {
		if counts[rule] < 40 {
			t.Errorf("only %d sites of the rule %d", counts[rule], rule)
		}
	}
}

// TestTransform compares all results in random programs with the table.
func TestTransform(t *testing.T) {
	r, counts := rand.New(rand.NewSource(162)), map[any]int{}
	for i := range 500 {
		p, _ := randomSite(t, r, sig12, 1+i%(len(ruleTexts)-1))
		if !impl.ValidProg(sig12, p) {
			continue
		}
		for rule := int64(1); rule <= 14; rule++ {
			for _, place := range progPlaces(p, nil) {
				by, fits := transformed(place.part, rule)
				wanted := list("", impl.ErrNotFound)
				if result := changedProg(p, place.path, by); fits && impl.ValidProg(sig12, result) {
					wanted = list(progByTable(result), impl.OK)
				} else if fits {
					wanted = list("", impl.ErrLimit)
				}
				text, code := transformText(sig12, p, place.path, rule)
				want(t, fmt.Sprint("rule ", rule, " at ", place.path, " of ", progByTable(p)), list(text, code), wanted)
				counts[code]++
			}
		}
	}
	if counts[int64(impl.OK)] < 1500 || counts[int64(impl.ErrNotFound)] < 3000 {
		t.Errorf("codes: %v", counts)
	}
}

// TestThereAndBack: rules that undo one another.
func TestThereAndBack(t *testing.T) {
	r, count := rand.New(rand.NewSource(163)), 0
	for rule, back := range map[int64]int64{impl.TrUnroll: impl.TrRoll, impl.TrRoll: impl.TrUnroll, impl.TrRight: impl.TrLeft, impl.TrLeft: impl.TrRight, impl.TrPush: impl.TrPull, impl.TrPull: impl.TrPush} {
		for range 150 {
			p, path := randomSite(t, r, sig22, int(rule))
			q, code := impl.Transform(sig22, p, path, rule)
			if code == impl.OK {
				count++
				text, code := transformText(sig22, q, path, back)
				want(t, "there and back", list(text, code), list(progByTable(p), impl.OK))
			}
		}
	}
	if count < 700 {
		t.Errorf("only %d programs", count)
	}
}

// TestTransformedPrograms: promise 22, for words, flowcharts, relations and runs.
func TestTransformedPrograms(t *testing.T) {
	r, counts := rand.New(rand.NewSource(164)), map[int64]int{}
	for i := range 1500 {
		g := []impl.Sig{sig12, sig22, {Tests: 3, Actions: 2}}[i%3]
		p, path := randomSite(t, r, g, 1+i%(len(ruleTexts)-1))
		rule := ruleOf(1 + i%(len(ruleTexts)-1))
		q, code := impl.Transform(g, p, path, rule)
		if code != impl.OK {
			continue
		}
		name := fmt.Sprint("rule ", rule, " at ", path, " of ", progByTable(p))
		e, first := impl.ProgExpr(g, p)
		f, second := impl.ProgExpr(g, q)
		w := randomWorld(r, g, int64(1+i%8))
		if first == impl.OK && second == impl.OK {
			same, code := impl.EqualExprs(g, e, f)
			if code == impl.ErrLimit {
				continue
			}
			counts[rule]++
			want(t, name+": words", list(same, code), list(true, impl.OK))
			m := modelOfWorld(g, w)
			want(t, name+": relation", marksOf(relation(t, m, e)), marksOf(relation(t, m, f)))
		}
		left, first := impl.FlowOf(g, p)
		right, second := impl.FlowOf(g, q)
		if first == impl.OK && second == impl.OK {
			a, _ := impl.FlowAutomaton(g, left)
			b, _ := impl.FlowAutomaton(g, right)
			want(t, name+": words of flowcharts", acceptSame(a, b, 0, 0), true)
		}
		for state := range int64(len(w.Atoms)) {
			one, other := runOf(g, w, p, state, 500), runOf(g, w, q, state, 500)
			want(t, name+": runs", list(other[:2], other[3]), list(one[:2], one[3]))
			if first == impl.OK && second == impl.OK {
				one, other = runFlowOf(g, w, left, state, 500), runFlowOf(g, w, right, state, 500)
				want(t, name+": runs of flowcharts", list(other[:2], other[3]), list(one[:2], one[3]))
			}
		}
	}
	for rule := int64(1); rule <= 14; rule++ {
		if counts[rule] < 50 {
			t.Errorf("only %d programs for the rule %d", counts[rule], rule)
		}
	}
}
