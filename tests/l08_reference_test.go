package tests

import (
	"fmt"
	"math/rand"
	"slices"
	"strings"
	"testing"

	"loop.example/g01101/impl"
)

// This file has the definitions of chapter 8, word for word, and makers of
// proofs, archives and events.

// Votes of checkers, just enough of which are true, and one too few.
var (
	enough = []bool{true, false, true, false, true}
	tooFew = []bool{false, true, false, true, false}
)

// event makes an event without an entry, of its kind and up to three numbers.
func event(kind int64, numbers ...int64) impl.Event {
	all := append(slices.Clone(numbers), 0, 0, 0)
	return impl.Event{Kind: kind, A: all[0], B: all[1], C: all[2]}
}

// put makes the event that puts an entry to a server, for which enough vote.
func put(s int64, p impl.Proof, rests ...int64) impl.Event {
	return impl.Event{Kind: impl.EvPut, A: s, Rests: rests, Proof: p, Votes: enough}
}

// entryNote makes the note of an entry, and revocation that of a revocation.
func entryNote(id int64, p impl.Proof, rests ...int64) impl.Note {
	return impl.Note{Id: id, Entry: impl.Entry{Id: id, Rests: rests, Proof: p}}
}

func revocation(id int64) impl.Note { return impl.Note{Revoke: true, Id: id} }

// upServer makes a server that is Up, with all or some of its notes saved.
func upServer(saved int, notes ...impl.Note) impl.Server {
	return impl.Server{Up: true, Notes: notes, Saved: int64(saved)}
}

func downServer(notes ...impl.Note) impl.Server {
	return impl.Server{Notes: notes, Saved: int64(len(notes))}
}

// archive makes an archive of sig22 without packets.
func archive(servers ...impl.Server) impl.Archive {
	return impl.Archive{Sig: sig22, Servers: servers}
}

// unitProof proves a0 from (1 a0), with so many steps there and back between.
func unitProof(t *testing.T, rounds int) impl.Proof {
	t.Helper()
	lines := []string{"proof 2 2", "claim (1 a0) = a0", "axiom 5 > - [] [a0]"}
	return mustProof(t, append(lines, slices.Repeat([]string{"axiom 3 < - [] [a0]", "axiom 3 > - [] [a0]"}, rounds)...)...)
}

// starProof rests on the lemma of unitProof; with several rests, these say the
// same.
func starProof(t *testing.T, rests int) impl.Proof {
	t.Helper()
	lines := append([]string{"proof 2 2"}, slices.Repeat([]string{"claim (1 a0) = a0"}, rests)...)
	return mustProof(t, append(lines, "claim (1 a0*) = a0*", "lemma 0 > - [] [a0*]")...)
}

// wrongProof is valid, but what it claims is wrong.
func wrongProof(t *testing.T) impl.Proof {
	t.Helper()
	return mustProof(t, "proof 2 2", "claim a0 = a1")
}

// nodesInProof counts the nodes of all expressions of a proof.
func nodesInProof(p impl.Proof) int64 {
	nodes := int64(0)
	for _, c := range p.Claims {
		all := []impl.Expr{c.Left, c.Right}
		for _, s := range c.Steps {
			all = append(append(all, s.Tests...), s.Acts...)
		}
		for _, e := range all {
			nodes += impl.ExprSize(e)
		}
	}
	return nodes
}

// largeProof is a proof with just so many nodes, in sides, tests and actions.
func largeProof(t *testing.T, nodes int) impl.Proof {
	t.Helper()
	parts := []impl.Expr{}
	for ; nodes > 250; nodes -= 199 {
		parts = append(parts, nodesOf(t, test(0), 199))
	}
	parts = append(parts, nodesOf(t, test(0), 51), nodesOf(t, test(0), nodes-51))
	c := impl.Claim{Left: parts[0], Right: parts[1], Rule: impl.ClSteps}
	for pair := range slices.Chunk(parts[2:], 2) {
		c.Steps = append(c.Steps, impl.ProofStep{Tests: pair[:1], Acts: pair[1:]})
	}
	return impl.Proof{Sig: sig22, Claims: []impl.Claim{c}}
}

// equationBy is what an entry claims.
func equationBy(e impl.Entry) impl.Equation {
	return equationOf(e.Proof.Claims[len(e.Proof.Claims)-1])
}

func equationText(q impl.Equation) string { return textOf(q.Left) + " = " + textOf(q.Right) }

// knows tells whether a server has a note among its first ones, so many.
func knows(s impl.Server, count int64, revoke bool, id int64) bool {
	return slices.ContainsFunc(s.Notes[:count], func(n impl.Note) bool { return n.Revoke == revoke && n.Id == id })
}

func all(s impl.Server) int64 { return int64(len(s.Notes)) }

// knowsAll tells whether a server knows the entries of all Ids.
func knowsAll(s impl.Server, count int64, ids []int64) bool {
	return !slices.ContainsFunc(ids, func(id int64) bool { return !knows(s, count, false, id) })
}

// entryBy is an entry that a server knows.
func entryBy(s impl.Server, id int64) impl.Entry {
	for _, n := range s.Notes {
		if !n.Revoke && n.Id == id {
			return n.Entry
		}
	}
	return impl.Entry{}
}

// validPartsBy tells whether an entry may have these rests and this proof.
func validPartsBy(g impl.Sig, rests []int64, p impl.Proof) bool {
	for i, id := range rests {
		if id < 0 || id > 99 || slices.Contains(rests[i+1:], id) {
			return false
		}
	}
	return len(rests) <= 4 && impl.ValidProof(p) && p.Sig == g && len(p.Claims) > len(rests) && nodesInProof(p) <= 20000
}

// noteText tells all of a note, valid or not.
func noteText(n impl.Note) string { return fmt.Sprintf("%+v", n) }

func validNoteBy(g impl.Sig, n impl.Note) bool {
	if n.Revoke {
		return n.Id >= 0 && n.Id <= 99 && noteText(n) == noteText(impl.Note{Revoke: true, Id: n.Id})
	}
	return n.Id >= 0 && n.Id <= 99 && n.Entry.Id == n.Id && validPartsBy(g, n.Entry.Rests, n.Entry.Proof)
}

// validBy tells whether an archive is valid.
func validBy(a impl.Archive) bool {
	valid := impl.ValidSig(a.Sig) && len(a.Servers) >= 1 && len(a.Servers) <= 5 && len(a.Flying) <= 12
	notes := []impl.Note{}
	for _, s := range a.Servers {
		valid = valid && len(s.Notes) <= 20 && s.Saved >= 0 && s.Saved <= all(s) && (s.Up || s.Saved == all(s))
		for i, n := range s.Notes {
			valid = valid && !knows(s, int64(i), n.Revoke, n.Id) && (n.Revoke || knowsAll(s, int64(i), n.Entry.Rests))
		}
		notes = append(notes, s.Notes...)
	}
	for _, p := range a.Flying {
		valid = valid && p.To >= 0 && p.To < int64(len(a.Servers))
		notes = append(notes, p.Note)
	}
	texts := map[int64]string{}
	for _, n := range notes {
		valid = valid && validNoteBy(a.Sig, n)
		if !n.Revoke && texts[n.Id] == "" {
			texts[n.Id] = noteText(n)
		}
		valid = valid && (n.Revoke || texts[n.Id] == noteText(n))
	}
	return valid
}

// shownBy is IsShown for valid arguments.
func shownBy(a impl.Archive, s int64, rests []int64, p impl.Proof) (bool, int) {
	if s < 0 || s >= int64(len(a.Servers)) {
		return false, impl.ErrRange
	}
	server := a.Servers[s]
	if !knowsAll(server, all(server), rests) {
		return false, impl.ErrNotFound
	}
	shown := true
	for k, c := range p.Claims {
		if k < len(rests) {
			shown = shown && equationText(equationOf(c)) == equationText(equationBy(entryBy(server, rests[k])))
		} else {
			shown = shown && shownByTable(p, k)
		}
	}
	return shown, impl.OK
}

func countTrue(votes []bool) int {
	count := 0
	for _, vote := range votes {
		count += one01(vote)
	}
	return count
}

// nextIdBy is the Id of the next entry that is put to a server.
func nextIdBy(a impl.Archive, s int64) int64 {
	known, servers := int64(0), int64(len(a.Servers))
	for id := range int64(100) {
		if id%servers == s && knows(a.Servers[s], all(a.Servers[s]), false, id) {
			known++
		}
	}
	return s + servers*known
}

// isGivenBy tells whether some server knows, or a packet has, an entry.
func isGivenBy(a impl.Archive, id int64) bool {
	return slices.ContainsFunc(a.Servers, func(s impl.Server) bool { return knows(s, all(s), false, id) }) ||
		slices.ContainsFunc(a.Flying, func(p impl.Packet) bool { return !p.Note.Revoke && p.Note.Id == id })
}

// wouldLearn tells whether a packet that is taken in is learned.
func wouldLearn(a impl.Archive, p impl.Packet) bool {
	s := a.Servers[p.To]
	return s.Up && !knows(s, all(s), p.Note.Revoke, p.Note.Id) && knowsAll(s, all(s), p.Note.Entry.Rests)
}

// refusedBy is the code of an event by its row of the table.
func refusedBy(a impl.Archive, e impl.Event) int {
	servers, packets := int64(len(a.Servers)), int64(len(a.Flying))
	s := impl.Server{}
	if e.A < servers {
		s = a.Servers[e.A]
	}
	full, code := len(s.Notes) == 20, impl.OK
	check := func(wrong bool, errorCode int) {
		if code == impl.OK && wrong {
			code = errorCode
		}
	}
	switch e.Kind {
	case impl.EvPut:
		check(e.A >= servers, impl.ErrRange)
		check(!s.Up || !knowsAll(s, all(s), e.Rests), impl.ErrState)
		check(countTrue(e.Votes) < 3, impl.ErrProof)
		check(code == impl.OK && (full || nextIdBy(a, e.A) >= 100 || isGivenBy(a, nextIdBy(a, e.A))), impl.ErrLimit)
	case impl.EvRevoke:
		check(e.A >= servers || e.B >= 100, impl.ErrRange)
		check(!s.Up || knows(s, all(s), true, e.B), impl.ErrState)
		check(full, impl.ErrLimit)
	case impl.EvSend:
		check(e.A >= servers || e.B >= servers || e.A == e.B || e.C >= all(s), impl.ErrRange)
		check(!s.Up || e.C >= s.Saved, impl.ErrState)
		check(packets == 12, impl.ErrLimit)
	case impl.EvDeliver, impl.EvCopy:
		check(e.A >= packets, impl.ErrRange)
		check(code == impl.OK && wouldLearn(a, a.Flying[e.A]) && len(a.Servers[a.Flying[e.A].To].Notes) == 20, impl.ErrLimit)
	case impl.EvDrop:
		check(e.A >= packets, impl.ErrRange)
	case impl.EvSave, impl.EvCrash:
		check(e.A >= servers, impl.ErrRange)
		check(!s.Up, impl.ErrState)
	case impl.EvStart:
		check(e.A >= servers, impl.ErrRange)
		check(s.Up, impl.ErrState)
	}
	return code
}

// stepBy is StepArchive for a valid archive and a valid event.
func stepBy(a impl.Archive, e impl.Event) (impl.Archive, int) {
	if code := refusedBy(a, e); code != impl.OK {
		return impl.Archive{}, code
	}
	b := impl.Archive{Sig: a.Sig, Servers: slices.Clone(a.Servers), Flying: slices.Clone(a.Flying)}
	learn := func(s int64, n impl.Note) {
		b.Servers[s].Notes = append(slices.Clone(b.Servers[s].Notes), n)
	}
	switch e.Kind {
	case impl.EvPut:
		learn(e.A, entryNote(nextIdBy(a, e.A), e.Proof, e.Rests...))
	case impl.EvRevoke:
		learn(e.A, revocation(e.B))
	case impl.EvSend:
		b.Flying = append(b.Flying, impl.Packet{To: e.B, Note: a.Servers[e.A].Notes[e.C]})
	case impl.EvDeliver, impl.EvCopy, impl.EvDrop:
		if e.Kind != impl.EvDrop && wouldLearn(a, a.Flying[e.A]) {
			learn(a.Flying[e.A].To, a.Flying[e.A].Note)
		}
		if e.Kind != impl.EvCopy {
			b.Flying = slices.Delete(b.Flying, int(e.A), int(e.A)+1)
		}
	case impl.EvSave:
		b.Servers[e.A].Saved = all(b.Servers[e.A])
	case impl.EvCrash:
		b.Servers[e.A] = downServer(a.Servers[e.A].Notes[:a.Servers[e.A].Saved]...)
	case impl.EvStart:
		b.Servers[e.A].Up = true
	}
	return b, impl.OK
}

// runBy is RunArchive for a valid archive and valid events.
func runBy(a impl.Archive, events []impl.Event) (impl.Archive, int) {
	made := 0
	for _, e := range events {
		if b, code := stepBy(a, e); code == impl.OK {
			a, made = b, made+1
		}
	}
	return a, made
}

// idsBy are the Ids of what a server knows.
func idsBy(s impl.Server, revoke bool) []int64 {
	ids := []int64{}
	for id := range int64(100) {
		if knows(s, all(s), revoke, id) {
			ids = append(ids, id)
		}
	}
	return ids
}

// closureBy are the Ids of the closure of a lemma that a server knows.
func closureBy(s impl.Server, id int64) []int64 {
	in := map[int64]bool{}
	var add func(id int64)
	add = func(id int64) {
		in[id] = true
		for _, rest := range entryBy(s, id).Rests {
			add(rest)
		}
	}
	add(id)
	ids := []int64{}
	for id := range int64(100) {
		if in[id] {
			ids = append(ids, id)
		}
	}
	return ids
}

func dependentsBy(s impl.Server, id int64) []int64 {
	ids := []int64{}
	for _, other := range idsBy(s, false) {
		if slices.Contains(closureBy(s, other), id) {
			ids = append(ids, other)
		}
	}
	return ids
}

func savedBy(a impl.Archive, revoke bool, id int64) []int64 {
	servers := []int64{}
	for i, s := range a.Servers {
		if knows(s, s.Saved, revoke, id) {
			servers = append(servers, int64(i))
		}
	}
	return servers
}

// tellBy is TellLemma for a valid archive, an Id and servers that exist.
func tellBy(a impl.Archive, id int64, asked []int64) (string, int) {
	knowing := impl.Server{}
	for _, i := range asked {
		if !a.Servers[i].Up {
			return "", impl.ErrState
		}
		if knows(a.Servers[i], a.Servers[i].Saved, false, id) {
			knowing = a.Servers[i]
		}
	}
	if len(asked)*2 <= len(a.Servers) {
		return "", impl.ErrState
	}
	if len(knowing.Notes) == 0 {
		return "", impl.ErrNotFound
	}
	for _, i := range asked {
		for _, x := range closureBy(knowing, id) {
			if knows(a.Servers[i], a.Servers[i].Saved, true, x) {
				return "", impl.ErrProof
			}
		}
	}
	return equationText(equationBy(entryBy(knowing, id))), impl.OK
}

// repairBy is RepairRests for a lemma that a server knows.
func repairBy(s impl.Server, id int64) ([]int64, int) {
	fallen := func(id int64) bool {
		return slices.ContainsFunc(closureBy(s, id), func(x int64) bool { return knows(s, all(s), true, x) })
	}
	rests := []int64{}
	for _, rest := range entryBy(s, id).Rests {
		if fallen(rest) {
			said := equationText(equationBy(entryBy(s, rest)))
			at := slices.IndexFunc(idsBy(s, false), func(other int64) bool {
				return !fallen(other) && equationText(equationBy(entryBy(s, other))) == said
			})
			if at < 0 {
				return nil, impl.ErrNotFound
			}
			rest = idsBy(s, false)[at]
		}
		rests = append(rests, rest)
	}
	for i, rest := range rests {
		if slices.Contains(rests[i+1:], rest) {
			return nil, impl.ErrState
		}
	}
	return rests, impl.OK
}

// spreadBy is SpreadEvents for a valid archive.
func spreadBy(a impl.Archive) ([]impl.Event, int) {
	events, code, now := []impl.Event{}, impl.OK, a
	do := func(e impl.Event) {
		events = append(events, e)
		if b, wrong := stepBy(now, e); wrong == impl.OK {
			now = b
		} else {
			code = impl.ErrLimit
		}
	}
	save := func() {
		for i, s := range a.Servers {
			if s.Up {
				do(event(impl.EvSave, int64(i)))
			}
		}
	}
	for range a.Flying {
		do(event(impl.EvDrop))
	}
	save()
	for i, s := range a.Servers {
		for c, n := range s.Notes {
			for k, other := range a.Servers {
				if s.Up && other.Up && i != k && !knows(now.Servers[k], all(now.Servers[k]), n.Revoke, n.Id) {
					do(event(impl.EvSend, int64(i), int64(k), int64(c)))
					do(event(impl.EvDeliver))
				}
			}
		}
	}
	save()
	if code != impl.OK || len(events) > 300 {
		return nil, impl.ErrLimit
	}
	return events, impl.OK
}

// serverTextBy is ServerText for a server.
func serverTextBy(s impl.Server) string {
	text := ""
	for i := range all(s) + 1 {
		if i == s.Saved {
			text += "saved\n"
		}
		if i == all(s) {
			break
		}
		n := s.Notes[i]
		if n.Revoke {
			text += "revoke " + digit(n.Id) + "\n"
			continue
		}
		words := append([]string{"lemma", digit(n.Id) + ":"}, numbersText(n.Entry.Rests)...)
		text += strings.Join(append(words, "|", equationText(equationBy(n.Entry))), " ") + "\n"
	}
	return text
}

// subsets are all strictly increasing lists of servers.
func subsets(servers int) [][]int64 {
	lists := [][]int64{}
	for bits := range 1 << servers {
		asked := []int64{}
		for i := range servers {
			if bits>>i&1 == 1 {
				asked = append(asked, int64(i))
			}
		}
		lists = append(lists, asked)
	}
	return lists
}

// restingProof returns a proof that begins with the equations of lemmas that a
// server knows and goes on with some steps, or says again what the first of them
// says.
func restingProof(r *rand.Rand, s impl.Server, rests []int64) impl.Proof {
	p := impl.Proof{Sig: sig22}
	for _, id := range rests {
		q := impl.Equation{Left: one, Right: one}
		if knows(s, all(s), false, id) {
			q = equationBy(entryBy(s, id))
		}
		p.Claims = append(p.Claims, impl.Claim{Left: q.Left, Right: q.Right, Rule: impl.ClSteps})
	}
	if len(rests) > 0 && r.Intn(2) == 0 {
		q := equationOf(p.Claims[0])
		s := impl.ProofStep{Use: -1, Tests: []impl.Expr{test(0), test(1)}[:fullLength("t", q.Left, q.Right)], Acts: []impl.Expr{act(0), act(1)}[:fullLength("a", q.Left, q.Right)]}
		return impl.Proof{Sig: sig22, Claims: append(p.Claims, impl.Claim{Left: q.Left, Right: q.Right, Rule: impl.ClSteps, Steps: []impl.ProofStep{s}})}
	}
	if r.Intn(4) == 0 {
		p = walkFrom(r, p, randomExpr(r, sig22, 2), 1)
	}
	return walkFrom(r, p, randomExpr(r, sig22, 1+r.Intn(2)), 1+r.Intn(2))
}

// longer has the same equation and goes there and back in the end.
func longer(p impl.Proof) impl.Proof {
	claims := slices.Clone(p.Claims)
	last := &claims[len(claims)-1]
	last.Steps = slices.Concat(last.Steps, []impl.ProofStep{{Use: 3, Back: true, Acts: []impl.Expr{last.Right}}, {Use: 3, Acts: []impl.Expr{last.Right}}})
	return impl.Proof{Sig: p.Sig, Claims: claims}
}

// falsified claims something else in its last claim.
func falsified(r *rand.Rand, p impl.Proof) impl.Proof {
	claims := slices.Clone(p.Claims)
	claims[len(claims)-1].Right = randomExpr(r, sig22, 2)
	return impl.Proof{Sig: p.Sig, Claims: claims}
}

// randomVotes are votes of which at most two are not what they should be.
func randomVotes(r *rand.Rand, right bool, wrong int) []bool {
	votes := slices.Repeat([]bool{right}, 5)
	for _, i := range r.Perm(5)[:wrong] {
		votes[i] = !right
	}
	return votes
}

// randomPut puts an entry, right or wrong, to a server; so many of the votes are
// wrong.
func randomPut(r *rand.Rand, a impl.Archive, s int64, wrong int) impl.Event {
	server := a.Servers[min(s, int64(len(a.Servers))-1)]
	rests, known := []int64{}, idsBy(server, false)
	for _, i := range r.Perm(len(known))[:min(len(known), r.Intn(4))] {
		rests = append(rests, known[i])
	}
	if r.Intn(12) == 0 && !slices.Contains(rests, 99) {
		rests = append(rests, 99)
	}
	p := restingProof(r, server, rests)
	if len(known) > 0 && r.Intn(3) == 0 {
		again := entryBy(server, known[r.Intn(len(known))])
		rests, p = again.Rests, longer(again.Proof)
	}
	if r.Intn(5) == 0 {
		p = falsified(r, p)
	}
	if !validPartsBy(sig22, rests, p) {
		rests, p = nil, impl.Proof{Sig: sig22, Claims: []impl.Claim{{Left: one, Right: one, Rule: impl.ClSteps}}}
	}
	shown, code := shownBy(a, s, rests, p)
	return impl.Event{Kind: impl.EvPut, A: s, Rests: rests, Proof: p, Votes: randomVotes(r, shown && code == impl.OK, wrong)}
}

// randomEvent returns a valid event, which can often be made.
func randomEvent(r *rand.Rand, a impl.Archive) impl.Event {
	servers := int64(len(a.Servers))
	s, other := r.Int63n(servers), r.Int63n(servers)
	if r.Intn(15) == 0 {
		s += servers
	}
	if r.Intn(15) == 0 {
		other += servers
	}
	kind := []int64{impl.EvPut, impl.EvPut, impl.EvPut, impl.EvRevoke, impl.EvSend, impl.EvSend, impl.EvSend, impl.EvSend, impl.EvDeliver, impl.EvDeliver, impl.EvDeliver,
		impl.EvCopy, impl.EvDrop, impl.EvSave, impl.EvSave, impl.EvSave, impl.EvCrash, impl.EvStart, impl.EvStart}[r.Intn(19)]
	switch kind {
	case impl.EvPut:
		return randomPut(r, a, s, r.Intn(3))
	case impl.EvRevoke:
		return event(kind, s, []int64{100, 99, r.Int63n(40), r.Int63n(12)}[min(r.Intn(20), 3)])
	case impl.EvSend:
		return event(kind, s, other, r.Int63n(2+all(a.Servers[s%servers])))
	case impl.EvDeliver, impl.EvCopy, impl.EvDrop:
		return event(kind, r.Int63n(int64(len(a.Flying))+1))
	}
	return event(kind, s)
}

// randomArchive is where random events lead, which are given as well.
func randomArchive(r *rand.Rand, servers int64, events int) (impl.Archive, []impl.Event) {
	a, list := impl.Archive{Sig: sig22}, []impl.Event{}
	for range servers {
		a.Servers = append(a.Servers, upServer(0))
	}
	for range events {
		e := randomEvent(r, a)
		list = append(list, e)
		if b, code := stepBy(a, e); code == impl.OK {
			a = b
		}
	}
	return a, list
}
