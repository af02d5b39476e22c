package tests

import (
	"fmt"
	"math"
	"math/rand"
	"slices"
	"testing"

	"loop.example/g01101/impl"
)

// This file tests archives with their entries, votes and events as values:
// promise 20, and what the other promises of chapter 8 need.

func TestArchiveConstants(t *testing.T) {
	want(t, "limits", list(impl.MaxServers, impl.MaxIds, impl.MaxRests, impl.MaxNotes, impl.MaxPackets, impl.MaxEvents, impl.MaxCheckers, impl.MaxFaulty, impl.MaxEntryNodes), "[5 100 4 20 12 300 5 2 20000]")
	want(t, "kinds", list(impl.EvPut, impl.EvRevoke, impl.EvSend, impl.EvDeliver, impl.EvCopy, impl.EvDrop, impl.EvSave, impl.EvCrash, impl.EvStart), "[1 2 3 4 5 6 7 8 9]")
}

func TestNewArchive(t *testing.T) {
	for servers := int64(1); servers <= 5; servers++ {
		for _, g := range []impl.Sig{sig00, sig22, sig34} {
			a, code := impl.NewArchive(g, servers)
			wanted := impl.Archive{Sig: g, Servers: slices.Repeat([]impl.Server{{Up: true}}, int(servers))}
			want(t, "a new archive", list(a, code, impl.ValidArchive(a)), list(wanted, impl.OK, true))
		}
	}
	for _, servers := range []int64{math.MinInt64, -1, 0, 6, math.MaxInt64} {
		a, code := impl.NewArchive(sig22, servers)
		want(t, fmt.Sprint(servers, " servers"), list(a, code), list(impl.Archive{}, impl.ErrRange))
		for _, g := range badSigs {
			a, code := impl.NewArchive(g, servers)
			want(t, "a bad signature", list(a, code), list(impl.Archive{}, impl.ErrInvalid))
		}
	}
	_, code := impl.NewArchive(badSigs[0], 3)
	want(t, "a bad signature", code, impl.ErrInvalid)
}

// someArchive has two servers that are Up and one that is not, and a packet; the
// lemmas 1 and 4 say the same.
func someArchive(t *testing.T) impl.Archive {
	t.Helper()
	first, again, star := entryNote(1, unitProof(t, 0)), entryNote(4, unitProof(t, 1)), entryNote(7, starProof(t, 1), 1)
	a := archive(upServer(2, first, revocation(1), again), upServer(4, first, again, star, revocation(50)), downServer(first, star))
	a.Flying = []impl.Packet{{To: 2, Note: star}, {To: 0, Note: revocation(50)}}
	return a
}

// goodArchives reach limits.
func goodArchives(t *testing.T) map[string]impl.Archive {
	t.Helper()
	p, revoked, entries := unitProof(t, 0), []impl.Note{}, []impl.Note{}
	for id := range int64(20) {
		revoked, entries = append(revoked, revocation(99-id)), append(entries, entryNote(99-id, p))
	}
	four := impl.Proof{Sig: sig22, Claims: append(slices.Repeat(p.Claims, 4), starProof(t, 0).Claims...)}
	good := map[string]impl.Archive{
		"one server": archive(upServer(0)), "one server that is not Up": archive(downServer()), "five servers": archive(upServer(0), downServer(), upServer(0), downServer(), upServer(0)),
		"20 notes": archive(upServer(0, revoked...)), "20 entries, all saved": archive(downServer(entries...), upServer(20, entries...)), "an entry and its revocation": archive(upServer(2, entries[0], revoked[0]), upServer(1, revoked[0], entries[0])),
		"four rests": archive(upServer(5, entries[3], entries[0], entries[2], entries[1], entryNote(0, four, 99, 98, 97, 96))), "40 claims": archive(upServer(1, entryNote(99, impl.Proof{Sig: sig22, Claims: slices.Repeat(p.Claims, 40)}))),
		"20,000 nodes": archive(upServer(1, entryNote(5, largeProof(t, 20000)))), "a wrong entry": archive(upServer(1, entryNote(0, wrongProof(t)))), "first claims that are not those lemmas": archive(upServer(2, entryNote(0, wrongProof(t)), entryNote(1, starProof(t, 1), 0))),
		"other Ids than events would give": archive(upServer(1, entryNote(1, p)), upServer(1, entryNote(0, p))), "no packets": {Sig: sig00, Servers: []impl.Server{upServer(0)}}, "some archive": someArchive(t),
	}
	full, self := archive(upServer(20, entries...), downServer()), archive(upServer(0))
	for i := range 12 {
		full.Flying = append(full.Flying, impl.Packet{To: int64(i % 2), Note: append(entries, revoked...)[3*i]})
	}
	self.Flying = []impl.Packet{{Note: entryNote(3, starProof(t, 1), 3)}, {Note: entryNote(4, starProof(t, 1), 5)}}
	good["12 packets"], good["packets that rest on what nobody knows"] = full, self
	return good
}

// badNotes are notes that are not as described.
func badNotes(t *testing.T) map[string]impl.Note {
	t.Helper()
	p, star := unitProof(t, 0), starProof(t, 1)
	bad := map[string]impl.Note{
		"another Id in the entry": {Id: 3, Entry: impl.Entry{Id: 4, Proof: p}}, "no Id in the entry": {Id: 3, Entry: impl.Entry{Proof: p}}, "no claims": entryNote(3, impl.Proof{Sig: sig22}), "no entry": {Id: 3}, "as many claims as rests": entryNote(3, p, 0),
		"a rest twice": entryNote(3, starProof(t, 2), 0, 0), "five rests": entryNote(3, starProof(t, 5), 0, 1, 2, 3, 4), "another signature": entryNote(3, mustProof(t, "proof 2 1", "claim 1 = 1")), "a greater signature": entryNote(3, mustProof(t, "proof 3 2", "claim 1 = 1")), "20,001 nodes": entryNote(3, largeProof(t, 20001)),
		"a revocation with the Id in the entry": {Revoke: true, Id: 3, Entry: impl.Entry{Id: 3}}, "a revocation with rests": {Revoke: true, Id: 3, Entry: impl.Entry{Rests: []int64{0}}}, "a revocation with a signature": {Revoke: true, Id: 3, Entry: impl.Entry{Proof: impl.Proof{Sig: sig22}}},
		"a revocation with claims": {Revoke: true, Id: 3, Entry: impl.Entry{Proof: impl.Proof{Claims: mustProof(t, "proof 0 0", "claim 1 = 1").Claims}}}, "a revocation with an entry": {Revoke: true, Id: 3, Entry: impl.Entry{Id: 3, Proof: p}},
	}
	for _, id := range []int64{math.MinInt64, -1, 100, math.MaxInt64} {
		bad[fmt.Sprint("the entry ", id)], bad[fmt.Sprint("the revocation ", id)], bad[fmt.Sprint("the rest ", id)] = entryNote(id, p), revocation(id), entryNote(3, star, id)
	}
	for name, p := range badProofs(t) {
		bad["proof: "+name] = entryNote(3, p)
	}
	return bad
}

// badArchives are archives just outside of the form, or far outside.
func badArchives(t *testing.T) map[string]impl.Archive {
	t.Helper()
	p, star, bad := unitProof(t, 0), starProof(t, 1), map[string]impl.Archive{}
	for i, g := range badSigs {
		bad[fmt.Sprint("signature ", i)] = impl.Archive{Sig: g, Servers: []impl.Server{upServer(0)}}
	}
	many, packets := []impl.Note{}, archive(upServer(0))
	for id := range int64(21) {
		many = append(many, revocation(id))
	}
	packets.Flying = slices.Repeat([]impl.Packet{{Note: revocation(1)}}, 13)
	for name, a := range map[string]impl.Archive{
		"nothing": {}, "no servers": archive(), "six servers": archive(slices.Repeat([]impl.Server{upServer(0)}, 6)...), "21 notes": archive(upServer(3, many...)), "21 notes of a later server": archive(upServer(0), downServer(many...)), "13 packets": packets,
		"not Up, nothing saved": archive(impl.Server{Notes: many[:1]}), "not Up, not all saved": archive(upServer(0), impl.Server{Notes: many[:3], Saved: 2}), "two entries of one Id": archive(upServer(1, entryNote(0, p), revocation(0), entryNote(0, p))), "two revocations of one Id": archive(upServer(2, revocation(9), revocation(9))),
		"two entries of one Id that differ": archive(upServer(0, entryNote(0, p), entryNote(0, unitProof(t, 1)))), "an entry ahead of its rest": archive(upServer(2, entryNote(1, star, 0), entryNote(0, p))), "an entry without its rest": archive(upServer(1, entryNote(1, star, 0)), upServer(1, entryNote(0, p))),
		"an entry that rests on a revocation": archive(upServer(1, revocation(0), entryNote(1, star, 0))), "an entry that rests on itself": archive(upServer(1, entryNote(1, star, 1))), "a second rest that is not known": archive(upServer(2, entryNote(0, p), entryNote(1, starProof(t, 2), 0, 2))),
		"entries that differ, on servers": archive(upServer(0, entryNote(0, p)), upServer(0), upServer(1, entryNote(0, unitProof(t, 1)))), "entries that differ by their sides": archive(upServer(0, entryNote(0, p)), downServer(entryNote(0, wrongProof(t)))),
		"entries that differ by the order of rests":  archive(upServer(0, entryNote(0, p), entryNote(1, p), entryNote(2, starProof(t, 2), 0, 1)), downServer(entryNote(1, p), entryNote(0, p), entryNote(2, starProof(t, 2), 1, 0))),
		"entries that differ by the number of rests": archive(upServer(0, entryNote(0, p), entryNote(1, star)), downServer(entryNote(0, p), entryNote(1, star, 0))),
	} {
		bad[name] = a
	}
	for _, saved := range []int64{math.MinInt64, -1, 4, math.MaxInt64} {
		bad[fmt.Sprint("Saved ", saved)] = archive(upServer(0), impl.Server{Up: true, Notes: many[:3], Saved: saved})
	}
	withPackets := func(name string, packets ...impl.Packet) {
		a := archive(upServer(1, entryNote(0, p)), downServer())
		a.Flying = packets
		bad[name] = a
	}
	for _, to := range []int64{math.MinInt64, -1, 2, math.MaxInt64} {
		withPackets(fmt.Sprint("a packet to ", to), impl.Packet{Note: revocation(0)}, impl.Packet{To: to, Note: revocation(0)})
	}
	for name, n := range badNotes(t) {
		bad["a server has "+name] = archive(upServer(0), upServer(1, revocation(3), n))
		withPackets("a packet has "+name, impl.Packet{Note: revocation(0)}, impl.Packet{To: 1, Note: n})
	}
	withPackets("a packet differs from a server", impl.Packet{To: 1, Note: entryNote(0, unitProof(t, 1))})
	withPackets("packets differ", impl.Packet{To: 1, Note: entryNote(3, p)}, impl.Packet{To: 1, Note: entryNote(3, star, 0)})
	return bad
}

func TestValidArchive(t *testing.T) {
	for name, a := range goodArchives(t) {
		want(t, name, list(impl.ValidArchive(a), validBy(a)), "[true true]")
	}
	for name, a := range badArchives(t) {
		want(t, name, list(impl.ValidArchive(a), validBy(a)), "[false false]")
	}
}

// changedNote has one thing of a note changed.
func changedNote(r *rand.Rand, n impl.Note) impl.Note {
	switch r.Intn(6) {
	case 0:
		n.Revoke = !n.Revoke
	case 1:
		n.Id = r.Int63n(103) - 2
	case 2:
		n.Entry.Id = n.Id + r.Int63n(2)
	case 3:
		n.Id, n.Entry.Id = r.Int63n(20), n.Id
	case 4:
		n.Entry.Rests = append(slices.Clone(n.Entry.Rests), r.Int63n(20))
	case 5:
		if len(n.Entry.Proof.Claims) > 0 {
			n.Entry.Proof = longer(n.Entry.Proof)
		}
	}
	return n
}

// changedArchive has one thing of an archive changed, which may be valid still.
func changedArchive(r *rand.Rand, a impl.Archive) impl.Archive {
	b := impl.Archive{Sig: a.Sig, Servers: slices.Clone(a.Servers), Flying: slices.Clone(a.Flying)}
	s := &b.Servers[r.Intn(len(b.Servers))]
	s.Notes = slices.Clone(s.Notes)
	i, k := r.Intn(len(s.Notes)+1), r.Intn(len(s.Notes)+1)
	switch way := r.Intn(9); {
	case way == 0:
		s.Up = !s.Up
	case way == 1:
		s.Saved += r.Int63n(5) - 2
	case way == 2:
		b.Sig.Tests++
	case way == 3 && len(b.Flying) > 0:
		b.Flying[r.Intn(len(b.Flying))].To = r.Int63n(7) - 1
	case way == 4 && len(b.Flying) > 0:
		p := &b.Flying[r.Intn(len(b.Flying))]
		p.Note = changedNote(r, p.Note)
	case i == len(s.Notes) || k == len(s.Notes):
		s.Notes, s.Saved = s.Notes[:max(0, len(s.Notes)-1)], max(0, s.Saved-1)
	case way < 7:
		s.Notes[i] = changedNote(r, s.Notes[i])
	case way == 7:
		s.Notes[i], s.Notes[k] = s.Notes[k], s.Notes[i]
	case way == 8:
		s.Notes = slices.Insert(s.Notes, k, s.Notes[i])
	}
	return b
}

// TestChangedArchives compares with the definition where one thing or two are
// changed, and sees each change.
func TestChangedArchives(t *testing.T) {
	r, counts := rand.New(rand.NewSource(300)), map[bool]int{}
	for i := range 1500 {
		a, _ := randomArchive(r, int64(1+i%5), 10+i%60)
		want(t, "an archive by events", list(impl.ValidArchive(a), impl.SameArchive(a, a)), "[true true]")
		b := changedArchive(r, a)
		want(t, "a changed archive", impl.ValidArchive(b), validBy(b))
		want(t, "the same", list(impl.SameArchive(a, b), impl.SameArchive(b, a)), slices.Repeat([]bool{fmt.Sprint(a) == fmt.Sprint(b)}, 2))
		c := changedArchive(r, b)
		want(t, "an archive that is changed twice", impl.ValidArchive(c), validBy(c))
		counts[validBy(b)]++
	}
	if counts[true] < 200 || counts[false] < 400 {
		t.Errorf("counts: %v", counts)
	}
}

// TestSameArchive: archives that need not be valid are the same just if all of
// their parts are; nil is as good as empty.
func TestSameArchive(t *testing.T) {
	different := []impl.Archive{{}, {Sig: sig01}, {Sig: sig11}, archive(impl.Server{}), archive(upServer(0)), archive(upServer(1)), archive(upServer(0), upServer(0))}
	notes := []impl.Note{{}, {Revoke: true}, {Id: 1}, {Entry: impl.Entry{Id: 1}}, {Entry: impl.Entry{Rests: []int64{0}}}, {Entry: impl.Entry{Rests: []int64{1}}}, {Entry: impl.Entry{Rests: []int64{0, 1}}},
		{Entry: impl.Entry{Proof: impl.Proof{Sig: sig01}}}, {Entry: impl.Entry{Proof: impl.Proof{Claims: []impl.Claim{{}}}}}, {Entry: impl.Entry{Proof: unitProof(t, 0)}}, {Entry: impl.Entry{Proof: unitProof(t, 1)}}}
	for _, n := range notes {
		a := archive(upServer(0))
		a.Flying = []impl.Packet{{Note: n}}
		b := archive(upServer(0))
		b.Flying = []impl.Packet{{To: 1, Note: n}}
		different = append(different, archive(upServer(0, n)), archive(upServer(0, n, n)), a, b)
	}
	for i, a := range different {
		for k, b := range different {
			want(t, fmt.Sprint("archives ", i, " and ", k), impl.SameArchive(a, b), i == k)
		}
	}
	empty := impl.Archive{Servers: []impl.Server{}, Flying: []impl.Packet{}}
	inner := archive(impl.Server{Notes: []impl.Note{{Entry: impl.Entry{Rests: []int64{}, Proof: impl.Proof{Claims: []impl.Claim{}}}}}})
	want(t, "nil and empty", list(impl.SameArchive(empty, impl.Archive{}), impl.SameArchive(inner, archive(impl.Server{Notes: []impl.Note{{}}})), impl.SameArchive(archive(impl.Server{}), archive(impl.Server{Notes: []impl.Note{}}))), "[true true true]")
}

// TestCountVotes has all votes of five checkers, and other numbers of votes.
func TestCountVotes(t *testing.T) {
	for bits := range 32 {
		votes := []bool{}
		for i := range 5 {
			votes = append(votes, bits>>i&1 == 1)
		}
		right, code := impl.CountVotes(votes)
		want(t, fmt.Sprint(votes), list(right, code), list(countTrue(votes) > 2, impl.OK))
	}
	for _, count := range []int{0, 1, 3, 4, 6, 10, 1000} {
		right, code := impl.CountVotes(slices.Repeat([]bool{true}, count))
		want(t, fmt.Sprint(count, " votes"), list(right, code), list(false, impl.ErrInvalid))
	}
}

// TestIsShown: the first claims are those of the rests, and the others are shown.
func TestIsShown(t *testing.T) {
	a, lines := someArchive(t), func(lines ...string) impl.Proof { return mustProof(t, append([]string{"proof 2 2"}, lines...)...) }
	a.Servers[0].Notes = append(a.Servers[0].Notes, entryNote(3, lines("claim 1 = 1", "claim a0 = a1")))
	const unit, left = "claim (1 a0) = a0", "claim ((a0* 1) + a0*) = a0*"
	shown := []string{"claim a0* = a0*", "claim (1 a0*) = a0*", "lemma 0 > - [] [a0*]"}
	for i, row := range []struct {
		s     int64
		rests []int64
		p     impl.Proof
		shown bool
		code  int
	}{
		{0, nil, unitProof(t, 0), true, impl.OK}, {2, nil, unitProof(t, 29), true, impl.OK}, {0, nil, wrongProof(t), false, impl.OK}, {0, nil, lines(unit), false, impl.OK}, {0, nil, lines("claim 1 = 1"), true, impl.OK}, {0, nil, lines("claim 1 = 1", "claim 0 = 1", "claim 0 = 0"), false, impl.OK},
		{0, []int64{1}, starProof(t, 1), true, impl.OK}, {0, []int64{4}, starProof(t, 1), true, impl.OK}, {1, []int64{4, 1}, starProof(t, 2), true, impl.OK}, {2, []int64{1}, starProof(t, 1), true, impl.OK}, {0, []int64{3}, starProof(t, 1), false, impl.OK}, {0, []int64{3}, lines("claim 1 = 1", "claim a0 = a1", "lemma 0 > - [] []"), false, impl.OK},
		{0, []int64{3}, lines("claim a0 = a1", "claim (a0 a0) = (a0 a1)", "lemma 0 > 1 [] [a0; a1]"), true, impl.OK}, {0, []int64{1, 3}, lines(unit, "claim a0 = a1", "claim 1 = 1"), true, impl.OK}, {0, []int64{3, 1}, lines(unit, "claim a0 = a1", "claim 1 = 1"), false, impl.OK}, {0, []int64{1}, lines("claim a0 = (1 a0)", "claim 1 = 1"), false, impl.OK}, {0, []int64{1}, lines("claim (1 a1) = a1", "claim 1 = 1"), false, impl.OK},
		{0, []int64{1}, lines(unit, "axiom 1 > - [] [0; 1]", "claim 1 = 1"), true, impl.OK}, {0, []int64{1}, lines(unit, "left 9", "claim 1 = 1"), true, impl.OK}, {0, []int64{1}, lines("claim (1 a0) = a1", "claim 1 = 1"), false, impl.OK}, {0, []int64{1}, lines("claim (0 a0) = a0", "claim 1 = 1"), false, impl.OK},
		{0, []int64{1}, lines(append([]string{unit}, shown...)...), true, impl.OK}, {0, []int64{1}, lines(unit, "claim (1 a0) = a0", "lemma 1 > - [] [a0]"), false, impl.OK}, {0, []int64{1}, lines(unit, "claim 0 = 1", "claim 1 = 1"), false, impl.OK}, {0, []int64{1, 4}, lines(unit, unit, "claim (1 1) = 1", "lemma 1 > - [] [1]"), true, impl.OK},
		{1, []int64{7}, lines("claim (1 a0*) = a0*", "claim (1 t0*) = t0*", "lemma 0 > - [] [t0]"), true, impl.OK}, {0, []int64{7}, lines("claim (1 a0*) = a0*", "claim (1 t0*) = t0*", "lemma 0 > - [] [t0]"), false, impl.ErrNotFound}, {2, []int64{1, 4}, starProof(t, 2), false, impl.ErrNotFound}, {1, []int64{50}, starProof(t, 1), false, impl.ErrNotFound}, {0, []int64{99}, starProof(t, 1), false, impl.ErrNotFound},
		{3, nil, unitProof(t, 0), false, impl.ErrRange}, {-1, []int64{1}, starProof(t, 1), false, impl.ErrRange}, {math.MaxInt64, []int64{99}, starProof(t, 1), false, impl.ErrRange}, {math.MinInt64, nil, wrongProof(t), false, impl.ErrRange},
		{9, []int64{1}, unitProof(t, 0), false, impl.ErrInvalid}, {0, []int64{1, 1}, starProof(t, 2), false, impl.ErrInvalid}, {0, []int64{100}, starProof(t, 1), false, impl.ErrInvalid}, {9, []int64{-1}, starProof(t, 1), false, impl.ErrInvalid}, {0, []int64{0, 1, 2, 3, 4}, starProof(t, 5), false, impl.ErrInvalid}, {0, nil, impl.Proof{Sig: sig22}, false, impl.ErrInvalid},
		{0, nil, largeProof(t, 20000), false, impl.OK}, {9, nil, largeProof(t, 20001), false, impl.ErrInvalid}, {0, nil, impl.StandardProof(), false, impl.ErrInvalid}, {0, nil, lines(append([]string{"claim (1 + (1 a0*)) = a0*"}, left)...), false, impl.OK},
	} {
		right, code := impl.IsShown(a, row.s, row.rests, row.p)
		want(t, fmt.Sprint("row ", i), list(right, code), list(row.shown, row.code))
		if code != impl.ErrInvalid {
			right, second := shownBy(a, row.s, row.rests, row.p)
			want(t, fmt.Sprint("row ", i, " by the definition"), list(right, second), list(row.shown, row.code))
		}
	}
	standard := impl.StandardProof()
	b := impl.Archive{Sig: standard.Sig, Servers: []impl.Server{upServer(1, entryNote(0, impl.Proof{Sig: standard.Sig, Claims: standard.Claims[:3]}))}}
	right, code := impl.IsShown(b, 0, []int64{0}, impl.Proof{Sig: standard.Sig, Claims: []impl.Claim{{Left: standard.Claims[2].Left, Right: standard.Claims[2].Right, Rule: impl.ClSteps}, {Left: standard.Claims[3].Left, Right: standard.Claims[3].Right, Rule: impl.ClLeft}}})
	want(t, "a loop by a lemma", list(right, code), list(true, impl.OK))
}

// TestShownEntries: random entries are shown just if all is right.
func TestShownEntries(t *testing.T) {
	r, counts := rand.New(rand.NewSource(301)), map[string]int{}
	for range 300 {
		a, _ := randomArchive(r, 3, 30)
		for range 5 {
			e := randomPut(r, a, r.Int63n(3), 0)
			right, code := impl.IsShown(a, e.A, e.Rests, e.Proof)
			wanted, second := shownBy(a, e.A, e.Rests, e.Proof)
			want(t, fmt.Sprint(e.Rests, " ", proofByTable(e.Proof)), list(right, code), list(wanted, second))
			counts[fmt.Sprint(right, code, len(e.Rests) > 0)]++
		}
	}
	for key, least := range map[string]int{"true 0 true": 200, "true 0 false": 200, "false 0 true": 50, "false 0 false": 50, "false 6 true": 50} {
		if counts[key] < least {
			t.Errorf("counts: %v", counts)
		}
	}
}

// badEvents are events that are not valid for archives of sig22.
func badEvents(t *testing.T) map[string]impl.Event {
	t.Helper()
	p, bad := unitProof(t, 0), map[string]impl.Event{}
	mentioned := map[int64]int{impl.EvPut: 1, impl.EvRevoke: 2, impl.EvSend: 3, impl.EvDeliver: 1, impl.EvCopy: 1, impl.EvDrop: 1, impl.EvSave: 1, impl.EvCrash: 1, impl.EvStart: 1}
	for kind, numbers := range mentioned {
		add := func(name string, change func(e *impl.Event)) {
			e := event(kind)
			if kind == impl.EvPut {
				e = put(0, p)
			}
			change(&e)
			bad[fmt.Sprint("kind ", kind, ", ", name)] = e
		}
		for i := range 3 {
			for _, x := range []int64{math.MinInt64, -1, 1000, math.MaxInt64, 1, 999} {
				if i >= numbers || x < 0 || x > 999 {
					add(fmt.Sprint("number ", i, " is ", x), func(e *impl.Event) { *[]*int64{&e.A, &e.B, &e.C}[i] = x })
				}
			}
		}
		if kind != impl.EvPut {
			add("rests", func(e *impl.Event) { e.Rests = []int64{0} })
			add("a signature", func(e *impl.Event) { e.Proof.Sig = sig22 })
			add("a proof", func(e *impl.Event) { e.Proof = p })
			add("claims", func(e *impl.Event) { e.Proof.Claims = make([]impl.Claim, 1) })
			add("a vote", func(e *impl.Event) { e.Votes = []bool{false} })
			add("votes", func(e *impl.Event) { e.Votes = enough })
		}
	}
	for name, n := range badNotes(t) {
		if n.Entry.Id == n.Id && n.Id == 3 && !n.Revoke {
			bad["an entry, "+name] = put(0, n.Entry.Proof, n.Entry.Rests...)
		}
	}
	for _, votes := range [][]bool{nil, {true}, enough[:4], {true, true, true, true, true, true}, {false, false, false, false, false, false}} {
		e := put(0, p)
		e.Votes = votes
		bad[fmt.Sprint(len(votes), " votes")] = e
	}
	for _, kind := range []int64{math.MinInt64, -1, 0, 10, math.MaxInt64} {
		bad[fmt.Sprint("kind ", kind)] = event(kind)
		bad[fmt.Sprint("an entry of kind ", kind)] = impl.Event{Kind: kind, Proof: p, Votes: enough}
	}
	return bad
}

// goodEvents are events that are valid, wherever they lead.
func goodEvents(t *testing.T) []impl.Event {
	t.Helper()
	events := []impl.Event{put(0, unitProof(t, 0)), put(999, wrongProof(t)), put(3, starProof(t, 4), 99, 0, 98, 1), put(1, largeProof(t, 20000)), {Kind: impl.EvPut, Proof: unitProof(t, 1), Votes: tooFew}, {Kind: impl.EvPut, Rests: []int64{}, Proof: unitProof(t, 1), Votes: make([]bool, 5)}}
	for kind := int64(impl.EvRevoke); kind <= impl.EvStart; kind++ {
		events = append(events, event(kind), event(kind, 999), impl.Event{Kind: kind, Rests: []int64{}, Proof: impl.Proof{Claims: []impl.Claim{}}, Votes: []bool{}})
	}
	return append(events, event(impl.EvRevoke, 999, 999), event(impl.EvSend, 999, 999, 999), event(impl.EvSend, 0, 0, 0), event(impl.EvRevoke, 0, 100))
}

func TestValidEvent(t *testing.T) {
	a := someArchive(t)
	for i, e := range goodEvents(t) {
		want(t, fmt.Sprint("good event ", i), impl.ValidEvent(a, e), true)
		want(t, fmt.Sprint("good event ", i, " for archives that are not valid"), list(impl.ValidEvent(impl.Archive{}, e), impl.ValidEvent(impl.Archive{Sig: sig22}, e)), "[false false]")
	}
	for name, e := range badEvents(t) {
		want(t, name, impl.ValidEvent(a, e), false)
	}
	other, _ := impl.NewArchive(sig12, 1)
	want(t, "another signature", list(impl.ValidEvent(other, put(0, unitProof(t, 0))), impl.ValidEvent(other, put(0, impl.StandardProof())), impl.ValidEvent(a, put(0, impl.StandardProof()))), "[false true false]")
	for name, a := range badArchives(t) {
		want(t, name, list(impl.ValidEvent(a, event(impl.EvSave)), impl.ValidEvent(a, put(0, unitProof(t, 0)))), "[false false]")
	}
}
