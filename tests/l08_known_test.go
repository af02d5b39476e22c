package tests

import (
	"fmt"
	"math"
	"math/rand"
	"slices"
	"strings"
	"testing"

	"loop.example/g01101/impl"
)

// This file tests what servers know and tell: promises 20 and 21.

// checkKnown compares all that is known of an Id, at a server and at all of
// them, with the definitions.
func checkKnown(t *testing.T, a impl.Archive, i, id int64) {
	t.Helper()
	name, s := fmt.Sprint(brief(a), ", the server ", i, " and the lemma ", id), a.Servers[i]
	closure, first := impl.ClosureOf(a, i, id)
	dependents, second := impl.DependentsOf(a, i, id)
	rests, third := impl.RepairRests(a, i, id)
	if !knows(s, all(s), false, id) {
		want(t, name, list(closure, first, dependents, second, rests, third), "[[] 6 [] 6 [] 6]")
	} else {
		repaired, code := repairBy(s, id)
		want(t, name, list(closure, first, dependents, second), list(closureBy(s, id), impl.OK, dependentsBy(s, id), impl.OK))
		want(t, name+", repaired", list(rests, third), list(repaired, code))
		for _, other := range idsBy(s, false) { // closures and dependents belong together
			others, _ := impl.DependentsOf(a, i, other)
			want(t, name+", both ways", slices.Contains(others, id), slices.Contains(closure, other))
		}
	}
	for _, revoke := range []bool{false, true} {
		servers, code := impl.SavedAt(a, revoke, id)
		want(t, name+", saved at", list(servers, code), list(savedBy(a, revoke, id), impl.OK))
	}
}

// withRevocations has some more revocations of what is known, some of them saved.
func withRevocations(r *rand.Rand, a impl.Archive) impl.Archive {
	for i, s := range a.Servers {
		if known := idsBy(s, false); len(known) > 0 && r.Intn(3) > 0 {
			a, _ = runBy(a, []impl.Event{event(impl.EvStart, int64(i)), event(impl.EvRevoke, int64(i), known[r.Intn(len(known))]), event([]int64{impl.EvSave, impl.EvCopy}[r.Intn(2)], int64(i))})
		}
	}
	return a
}

// TestRandomKnown: what is known, by the definitions.
func TestRandomKnown(t *testing.T) {
	r, longest, repairs := rand.New(rand.NewSource(320)), 0, map[string]int{}
	for i := range 700 {
		a, _ := randomArchive(r, int64(1+i%4), 20+i%60)
		a = withRevocations(r, a)
		for k, s := range a.Servers {
			known, first := impl.KnownIds(a, int64(k))
			revoked, second := impl.RevokedIds(a, int64(k))
			text, third := impl.ServerText(a, int64(k))
			want(t, brief(a), list(known, first, revoked, second, text, third), list(idsBy(s, false), impl.OK, idsBy(s, true), impl.OK, serverTextBy(s), impl.OK))
			for _, id := range append(idsBy(s, false), r.Int63n(100)) {
				checkKnown(t, a, int64(k), id)
				if knows(s, all(s), false, id) {
					rests, code := repairBy(s, id)
					repairs[fmt.Sprint(code, " ", code == impl.OK && !slices.Equal(rests, entryBy(s, id).Rests))]++
					longest = max(longest, len(closureBy(s, id)))
				}
			}
		}
	}
	if longest < 5 || repairs["0 true"] < 20 || repairs["6 false"] < 50 || repairs["0 false"] < 500 {
		t.Errorf("the longest closure has %d lemmas; repairs: %v", longest, repairs)
	}
}

// linked is an archive with one server whose lemma 2 rests on 0 and 1, 4 on 2
// and 3 on 1; 5 rests on nothing.
func linked(t *testing.T) impl.Archive {
	t.Helper()
	p := unitProof(t, 0)
	return archive(upServer(3, entryNote(1, p), entryNote(0, unitProof(t, 1)), entryNote(2, starProof(t, 2), 0, 1), entryNote(5, p), revocation(2), entryNote(4, mustProof(t, "proof 2 2", "claim (1 a0*) = a0*", "claim (1 1*) = 1*", "lemma 0 > - [] [1]"), 2), entryNote(3, starProof(t, 1), 1), revocation(77)), downServer(revocation(77)))
}

func TestClosures(t *testing.T) {
	a := linked(t)
	for id, row := range map[int64][2]string{0: {"[0]", "[0 2 4]"}, 1: {"[1]", "[1 2 3 4]"}, 2: {"[0 1 2]", "[2 4]"}, 3: {"[1 3]", "[3]"}, 4: {"[0 1 2 4]", "[4]"}, 5: {"[5]", "[5]"}} {
		closure, first := impl.ClosureOf(a, 0, id)
		dependents, second := impl.DependentsOf(a, 0, id)
		want(t, fmt.Sprint("lemma ", id), list(closure, first, dependents, second), "["+row[0]+" 0 "+row[1]+" 0]")
	}
	known, first := impl.KnownIds(a, 0)
	revoked, second := impl.RevokedIds(a, 0)
	none, third := impl.KnownIds(a, 1)
	want(t, "Ids", list(known, first, revoked, second, none, third), "[[0 1 2 3 4 5] 0 [2 77] 0 [] 0]")
	want(t, "a text", serverText(a, 0), "lemma 1: | (1 a0) = a0\nlemma 0: | (1 a0) = a0\nlemma 2: 0 1 | (1 a0*) = a0*\nsaved\nlemma 5: | (1 a0) = a0\nrevoke 2\nlemma 4: 2 | (1 1*) = 1*\nlemma 3: 1 | (1 a0*) = a0*\nrevoke 77\n")
	want(t, "a text, all saved", serverText(a, 1), "revoke 77\nsaved\n")
	want(t, "other texts", list(serverText(archive(upServer(0)), 0), serverText(archive(downServer()), 0), serverText(archive(upServer(0, revocation(0))), 0), serverText(archive(upServer(1, entryNote(99, wrongProof(t)))), 0)), "[saved\n saved\n saved\nrevoke 0\n lemma 99: | a0 = a1\nsaved\n]")
}

func serverText(a impl.Archive, s int64) string {
	text, _ := impl.ServerText(a, s)
	return text
}

// TestKnownErrors: servers and Ids out of range, and what is not known.
func TestKnownErrors(t *testing.T) {
	a := someArchive(t)
	for _, s := range []int64{math.MinInt64, -1, 0, 2, 3, 999, math.MaxInt64} {
		inRange := s >= 0 && s < 3
		_, first := impl.KnownIds(a, s)
		_, second := impl.RevokedIds(a, s)
		text, third := impl.ServerText(a, s)
		want(t, fmt.Sprint("server ", s), list(first, second, third, text == ""), list(2*one01(!inRange), 2*one01(!inRange), 2*one01(!inRange), !inRange))
		for _, id := range []int64{math.MinInt64, -1, 0, 7, 50, 99, 100, math.MaxInt64} {
			wanted := impl.OK
			if !inRange || id < 0 || id > 99 {
				wanted = impl.ErrRange
			} else if !knows(a.Servers[s], all(a.Servers[s]), false, id) {
				wanted = impl.ErrNotFound
			}
			closure, first := impl.ClosureOf(a, s, id)
			dependents, second := impl.DependentsOf(a, s, id)
			rests, third := impl.RepairRests(a, s, id)
			want(t, fmt.Sprint("server ", s, ", lemma ", id), list(first, second, third), list(wanted, wanted, wanted))
			if wanted != impl.OK {
				want(t, "nothing beside errors", list(closure, dependents, rests), "[[] [] []]")
			}
		}
	}
	for _, id := range []int64{math.MinInt64, -1, 100, math.MaxInt64} {
		for _, revoke := range []bool{false, true} {
			servers, code := impl.SavedAt(a, revoke, id)
			want(t, fmt.Sprint("saved ", id), list(servers, code), list([]int64{}, impl.ErrRange))
		}
	}
	for row, wanted := range map[string]string{"false 1": "[0 1 2]", "true 1": "[0]", "false 4": "[1]", "true 50": "[1]", "false 50": "[]", "false 7": "[1 2]", "true 7": "[]", "false 99": "[]", "true 0": "[]"} {
		id, revoke := int64(0), strings.HasPrefix(row, "true")
		fmt.Sscan(row[strings.Index(row, " "):], &id)
		servers, code := impl.SavedAt(a, revoke, id)
		want(t, "saved "+row, list(servers, code), "["+wanted+" 0]")
	}
}

// TestTellLemma: who has to be asked, and what has to be saved by whom.
func TestTellLemma(t *testing.T) {
	p := unitProof(t, 0)
	entry, again, star := entryNote(0, p), entryNote(1, p), entryNote(2, starProof(t, 1), 0)
	on := mustProof(t, "proof 2 2", "claim (1 a0*) = a0*", "claim (1 1*) = 1*", "lemma 0 > - [] [1]")
	top := entryNote(3, on, 2)
	two, none := archive(upServer(1, entry, again), upServer(2, entry, star)), upServer(0)
	five := archive(upServer(3, entry, star, top), upServer(1, entry), none, downServer(entry, star, top), upServer(1, revocation(0)))
	four := archive(upServer(1, entry), upServer(0, revocation(0)), none, downServer(revocation(0)))
	three := archive(upServer(1, entry, star, revocation(2)), upServer(3, entry, star, top, revocation(2)), upServer(2, revocation(1), entry))
	const unit, starred = "(1 a0) = a0", "(1 a0*) = a0*"
	for i, row := range []struct {
		a      impl.Archive
		id     int64
		asked  []int64
		wanted string
	}{
		{two, 0, []int64{0, 1}, unit}, {two, 1, []int64{0, 1}, "notfound"}, {two, 2, []int64{0, 1}, starred}, {two, 3, []int64{0, 1}, "notfound"}, {two, 0, []int64{0}, "state"}, {two, 0, []int64{1}, "state"}, {two, 0, nil, "state"}, {two, 9, nil, "state"}, {archive(upServer(1, entry)), 0, []int64{0}, unit}, {archive(upServer(0, entry)), 0, []int64{0}, "notfound"},
		{archive(upServer(1, entry)), 0, nil, "state"}, {archive(downServer(entry)), 0, []int64{0}, "state"}, {archive(upServer(1, entry, revocation(0))), 0, []int64{0}, unit}, {archive(upServer(2, entry, revocation(0))), 0, []int64{0}, "proof"}, {archive(upServer(2, revocation(0), entry)), 0, []int64{0}, "proof"}, {archive(upServer(2, revocation(5), entry)), 0, []int64{0}, unit},
		{five, 0, []int64{0, 1, 2}, unit}, {five, 2, []int64{0, 1, 2}, starred}, {five, 3, []int64{0, 1, 2}, "(1 1*) = 1*"}, {five, 3, []int64{0, 1, 4}, "proof"}, {five, 2, []int64{0, 2, 4}, "proof"}, {five, 0, []int64{1, 2, 4}, "proof"}, {five, 2, []int64{1, 2, 4}, "notfound"}, {five, 3, []int64{0, 1, 2, 4}, "proof"}, {five, 0, []int64{0, 1}, "state"}, {five, 0, []int64{0, 1, 3}, "state"}, {five, 0, []int64{0, 1, 2, 3, 4}, "state"}, {five, 9, []int64{0, 1, 2, 3, 4}, "state"}, {five, 9, []int64{0, 1, 2}, "notfound"},
		{four, 0, []int64{0, 1, 2}, unit}, {four, 0, []int64{0, 1}, "state"}, {four, 0, []int64{0, 2}, "state"}, {four, 0, []int64{0, 1, 2, 3}, "state"}, {four, 1, []int64{0, 1, 2}, "notfound"},
		{three, 0, []int64{0, 1}, unit}, {three, 0, []int64{0, 1, 2}, unit}, {three, 0, []int64{0, 2}, unit}, {three, 2, []int64{0, 1}, starred}, {three, 3, []int64{0, 1}, "(1 1*) = 1*"}, {three, 3, []int64{0, 2}, "notfound"}, {three, 2, []int64{0, 2}, "notfound"}, {three, 1, []int64{0, 1, 2}, "notfound"}, {three, 3, []int64{1, 2}, "(1 1*) = 1*"},
		{archive(upServer(3, entry, star, revocation(2)), three.Servers[1], three.Servers[2]), 3, []int64{0, 1}, "proof"}, {archive(upServer(3, entry, star, revocation(2)), upServer(3, entry, star, top), none), 3, []int64{0, 1}, "proof"}, {archive(upServer(3, entry, star, revocation(2)), upServer(3, entry, star, top), none), 3, []int64{1, 2}, "(1 1*) = 1*"}, {archive(upServer(3, entry, star, revocation(2)), upServer(3, entry, star, top), none), 0, []int64{0, 1}, unit},
	} {
		q, code := impl.TellLemma(row.a, row.id, row.asked)
		got, second := tellBy(row.a, row.id, row.asked)
		if wrong := impl.CodeName(code); code != impl.OK {
			want(t, fmt.Sprint("row ", i, ", nothing told"), q, impl.Equation{})
			want(t, fmt.Sprint("row ", i), list(wrong, second), list(row.wanted, code))
			continue
		}
		want(t, fmt.Sprint("row ", i), list(impl.EquationText(sig22, q), got, second), list(row.wanted, row.wanted, impl.OK))
	}
	for _, asked := range [][]int64{{1, 0}, {0, 0}, {0, 1, 1}, {0, 1, 5}, {-1, 0, 1}, {0, 1, 2, 4, 3}, {math.MinInt64}, {0, 1, math.MaxInt64}, {5}, {3, 0}, {0, 1, 2, 3, 4, 5}, {0, 1, 2, 3, 4, 4}} {
		q, code := impl.TellLemma(five, 0, asked)
		want(t, fmt.Sprint("asked ", asked), list(q, code), list(impl.Equation{}, impl.ErrRange))
	}
	for _, id := range []int64{math.MinInt64, -1, 100, math.MaxInt64} {
		for _, asked := range [][]int64{{0, 1, 2}, {0}, {3}, nil, {2, 1}} {
			q, code := impl.TellLemma(five, id, asked)
			want(t, fmt.Sprint("lemma ", id, ", asked ", asked), list(q, code), list(impl.Equation{}, impl.ErrRange))
		}
	}
}

// TestToldByTable: random archives, all Ids and all servers that can be asked.
func TestToldByTable(t *testing.T) {
	r, counts := rand.New(rand.NewSource(321)), map[int]int{}
	for i := range 150 {
		a, _ := randomArchive(r, int64(1+i%5), 30+i%60)
		a = withRevocations(r, a)
		for _, asked := range subsets(len(a.Servers)) {
			for id := range int64(25) {
				q, code := impl.TellLemma(a, id, asked)
				said, wanted := tellBy(a, id, asked)
				counts[wanted]++
				if code != int64(wanted) || code == impl.OK && equationText(q) != said {
					t.Errorf("%s: %v tell %d: got %s, code %d, want %s, code %d", brief(a), asked, id, equationText(q), code, said, wanted)
				}
			}
		}
	}
	for _, code := range []int{impl.OK, impl.ErrState, impl.ErrNotFound, impl.ErrProof} {
		if counts[code] < 200 {
			t.Errorf("counts: %v", counts)
		}
	}
}

// TestToldIsTrue: if at most two of the votes for each entry are wrong, all that
// is told is true, though wrong entries are put, too; and what more wrong votes
// let in may be wrong.
func TestToldIsTrue(t *testing.T) {
	r, told, refused := rand.New(rand.NewSource(322)), 0, 0
	for i := range 60 {
		a, events := randomArchive(r, int64(1+i%5), 90)
		for _, e := range events {
			refused += one01(e.Kind == impl.EvPut && countTrue(e.Votes) < 3)
		}
		for _, asked := range subsets(len(a.Servers)) {
			for id := range int64(25) {
				q, code := impl.TellLemma(a, id, asked)
				if code != impl.OK {
					continue
				}
				told++
				if equal, code := impl.EqualExprs(sig22, q.Left, q.Right); code == impl.OK && !equal {
					t.Errorf("%s is told, but is not true", equationText(q))
				}
			}
		}
	}
	if told < 300 || refused < 100 {
		t.Errorf("%d lemmas are told, %d entries are refused", told, refused)
	}
	for wrong, wanted := range []int{impl.ErrProof, impl.ErrProof, impl.ErrProof, impl.OK, impl.OK, impl.OK} {
		e := put(0, wrongProof(t))
		e.Votes = randomVotes(r, false, wrong)
		a, code := impl.StepArchive(archive(upServer(0)), e)
		want(t, fmt.Sprint(wrong, " wrong votes for a wrong entry"), code, wanted)
		if code == impl.OK {
			a, _, _ = impl.RunArchive(a, []impl.Event{event(impl.EvSave)})
			q, second := impl.TellLemma(a, 0, []int64{0})
			want(t, "a wrong entry is told", list(equationText(q), second), "[a0 = a1 0]")
		}
		e.Proof, e.Votes = unitProof(t, 0), randomVotes(r, true, wrong)
		_, code = impl.StepArchive(archive(upServer(0)), e)
		want(t, fmt.Sprint(wrong, " wrong votes for a right entry"), code, []int{impl.OK, impl.OK, impl.OK, impl.ErrProof, impl.ErrProof, impl.ErrProof}[wrong])
	}
}

// lemmaOf makes the entry of a claim of a proof: it rests on the entries, whose
// Ids are given, of the claims that it needs.
func lemmaOf(p impl.Proof, k int, ids []int64) ([]int64, impl.Proof) {
	c, needed := p.Claims[k], []int64{}
	for _, s := range c.Steps {
		if s.Use < 0 && !slices.Contains(needed, -1-s.Use) {
			needed = append(needed, -1-s.Use)
		}
	}
	if c.Rule != impl.ClSteps {
		needed = []int64{c.Ref}
	}
	rests, lemma := []int64{}, impl.Proof{Sig: p.Sig}
	for _, k := range needed {
		rests = append(rests, ids[k])
		lemma.Claims = append(lemma.Claims, impl.Claim{Left: p.Claims[k].Left, Right: p.Claims[k].Right, Rule: impl.ClSteps})
	}
	c.Steps = slices.Clone(c.Steps)
	for i, s := range c.Steps {
		if s.Use < 0 {
			c.Steps[i].Use = int64(-1 - slices.Index(needed, -1-s.Use))
		}
	}
	if c.Rule != impl.ClSteps {
		c.Ref = 0
	}
	return rests, impl.Proof{Sig: p.Sig, Claims: append(lemma.Claims, c)}
}

// standardArchive has an entry for each of the first claims of the standard
// proof. Each is put to one of three servers and spread, and the server crashes.
func standardArchive(t *testing.T, claims int) (impl.Archive, []int64) {
	t.Helper()
	p, ids := impl.StandardProof(), []int64{}
	a, _ := impl.NewArchive(p.Sig, 3)
	for k := range claims {
		s, name := int64(k%3), fmt.Sprint("claim ", k)
		rests, lemma := lemmaOf(p, k, ids)
		shown, code := impl.IsShown(a, s, rests, lemma)
		want(t, name+" is shown", list(shown, code), list(true, impl.OK))
		ids = append(ids, nextIdBy(a, s))
		b, code := impl.StepArchive(a, put(s, lemma, rests...))
		want(t, name+" is put", code, impl.OK)
		events, code := impl.SpreadEvents(b)
		want(t, name+" is spread", code, impl.OK)
		c, made, code := impl.RunArchive(b, append(events, event(impl.EvCrash, s), event(impl.EvStart, s)))
		want(t, name+" is kept", list(made, code), list(len(events)+2, impl.OK))
		a = c
	}
	return a, ids
}

// checkTold tells by all servers that can be asked the lemmas of the standard
// proof which do not rest on one that is gone.
func checkTold(t *testing.T, a impl.Archive, ids []int64, gone int64) {
	t.Helper()
	for k, id := range ids {
		wanted := list(equationText(equationOf(impl.StandardProof().Claims[k])), impl.OK)
		if slices.Contains(closureBy(a.Servers[0], id), gone) {
			wanted = list(equationText(impl.Equation{}), impl.ErrProof)
		}
		for _, asked := range [][]int64{{0, 1}, {0, 2}, {1, 2}, {0, 1, 2}} {
			q, code := impl.TellLemma(a, id, asked)
			want(t, fmt.Sprint("claim ", k, ", without ", gone, ", asked ", asked), list(equationText(q), code), wanted)
		}
	}
}

// TestProofInArchive: the claims of a checked proof are kept and told; when one
// of them is revoked, all are told but those that rest on it.
func TestProofInArchive(t *testing.T) {
	whole, ids := standardArchive(t, 20)
	checkTold(t, whole, ids, -1)
	a, ids := standardArchive(t, 15)
	for _, gone := range ids {
		events := []impl.Event{}
		for _, s := range []int64{2, 0} {
			events = append(events, event(impl.EvRevoke, s, gone), event(impl.EvSave, s), event(impl.EvCrash, s), event(impl.EvStart, s))
		}
		b, made, code := impl.RunArchive(a, events)
		want(t, "a revocation", list(made, code), list(8, impl.OK))
		checkTold(t, b, ids, gone)
	}
}

// TestRepairRests: elements that are replaced, that stay, that have nothing in
// their place, and that would occur twice.
func TestRepairRests(t *testing.T) {
	p, star := unitProof(t, 0), starProof(t, 1)
	first, second, third := entryNote(0, p), entryNote(1, unitProof(t, 1)), entryNote(2, unitProof(t, 2))
	starred, again := entryNote(3, star, 0), entryNote(4, starProof(t, 2), 1, 2)
	another := entryNote(7, mustProof(t, "proof 2 2", "claim (1 a1) = a1", "axiom 5 > - [] [a1]"))
	on := entryNote(5, mustProof(t, "proof 2 2", "claim (1 a0*) = a0*", "claim (1 a0) = a0", "claim (1 1) = 1"), 3, 1)
	pair := entryNote(6, starProof(t, 2), 0, 1)
	reversed := entryNote(8, mustProof(t, "proof 2 2", "claim a0 = (1 a0)", "axiom 5 < - [] [a0]"))
	same := entryNote(9, mustProof(t, "proof 2 2", "claim (1 a0) = a0", "claim (1 a0) = a0", "lemma 0 > - [] [a0]"), 0)
	for i, row := range []struct {
		notes  []impl.Note
		id     int64
		wanted string
	}{
		{[]impl.Note{first, starred}, 3, "[0] 0"}, {[]impl.Note{first}, 0, "[] 0"}, {[]impl.Note{first, revocation(0)}, 0, "[] 0"}, {[]impl.Note{first, starred, revocation(3)}, 3, "[0] 0"}, {[]impl.Note{first, starred, revocation(0)}, 3, "[] 6"}, {[]impl.Note{first, starred, revocation(0), another, reversed}, 3, "[] 6"}, {[]impl.Note{revocation(0), first, second, starred}, 3, "[1] 0"},
		{[]impl.Note{first, starred, revocation(0), second}, 3, "[1] 0"}, {[]impl.Note{third, first, second, starred, revocation(0)}, 3, "[1] 0"}, {[]impl.Note{third, first, second, starred, revocation(0), revocation(1)}, 3, "[2] 0"}, {[]impl.Note{first, second, starred, revocation(0), revocation(1)}, 3, "[] 6"}, {[]impl.Note{first, second, starred, revocation(1), third}, 3, "[0] 0"},
		{[]impl.Note{first, starred, same, revocation(0)}, 3, "[] 6"}, {[]impl.Note{first, same, second, starred, revocation(0)}, 3, "[1] 0"}, {[]impl.Note{first, same, second, starred, revocation(1)}, 3, "[0] 0"}, {[]impl.Note{first, second, third, starred, again, on}, 5, "[3 1] 0"}, {[]impl.Note{first, second, third, starred, again, on, revocation(0)}, 5, "[4 1] 0"}, {[]impl.Note{first, second, third, starred, again, on, revocation(3)}, 5, "[4 1] 0"},
		{[]impl.Note{first, second, third, starred, again, on, revocation(1)}, 5, "[3 0] 0"}, {[]impl.Note{first, second, third, starred, again, on, revocation(1), revocation(0)}, 5, "[] 6"}, {[]impl.Note{first, second, third, starred, on, revocation(0)}, 5, "[] 6"}, {[]impl.Note{first, second, third, starred, again, on, revocation(2)}, 5, "[3 1] 0"}, {[]impl.Note{first, second, third, starred, again, on, revocation(4)}, 5, "[3 1] 0"},
		{[]impl.Note{first, second, pair}, 6, "[0 1] 0"}, {[]impl.Note{first, second, pair, revocation(0)}, 6, "[] 4"}, {[]impl.Note{first, second, pair, revocation(1)}, 6, "[] 4"}, {[]impl.Note{first, second, pair, third, revocation(0)}, 6, "[] 4"}, {[]impl.Note{first, second, pair, third, revocation(0), revocation(1)}, 6, "[] 4"}, {[]impl.Note{first, second, pair, revocation(0), revocation(1)}, 6, "[] 6"},
		{[]impl.Note{first, second, third, starred, entryNote(6, mustProof(t, "proof 2 2", "claim (1 a0) = a0", "claim (1 a0) = a0", "claim (1 a0*) = a0*", "claim 1 = 1"), 0, 1, 3), revocation(3), revocation(0)}, 6, "[] 6"}, {[]impl.Note{first, second, another, entryNote(6, mustProof(t, "proof 2 2", "claim (1 a1) = a1", "claim (1 a0) = a0", "claim 1 = 1"), 7, 1), revocation(1)}, 6, "[7 0] 0"}, {[]impl.Note{first, second}, 6, "[] 6"}, {[]impl.Note{first, second, revocation(6)}, 6, "[] 6"},
	} {
		for _, s := range []impl.Server{upServer(0, row.notes...), downServer(row.notes...)} {
			a := archive(upServer(0, revocation(0), revocation(1), revocation(2), revocation(3)), s)
			rests, code := impl.RepairRests(a, 1, row.id)
			want(t, fmt.Sprint("row ", i), fmt.Sprint(rests, " ", code), row.wanted)
			if knows(s, all(s), false, row.id) {
				repaired, second := repairBy(s, row.id)
				want(t, fmt.Sprint("row ", i, " by the definition"), list(rests, code), list(repaired, second))
			}
		}
	}
}
