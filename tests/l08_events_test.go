package tests

import (
	"fmt"
	"math/rand"
	"slices"
	"strings"
	"testing"

	"loop.example/g01101/impl"
)

// This file tests events, one by one and one after the other: promise 19.

func briefNote(n impl.Note) string {
	return map[bool]string{false: "e", true: "r"}[n.Revoke] + digit(n.Id)
}

// brief tells who is Up, what each server knows, with a mark behind what it has
// saved, and the packets with their servers.
func brief(a impl.Archive) string {
	servers, packets := []string{}, []string{}
	for _, s := range a.Servers {
		words := []string{map[bool]string{false: "-", true: "+"}[s.Up]}
		for i, n := range s.Notes {
			if int64(i) == s.Saved {
				words = append(words, "|")
			}
			words = append(words, briefNote(n))
		}
		if s.Saved == all(s) {
			words = append(words, "|")
		}
		servers = append(servers, strings.Join(words, " "))
	}
	for _, p := range a.Flying {
		packets = append(packets, digit(p.To)+briefNote(p.Note))
	}
	return strings.TrimSpace(strings.Join(servers, ", ") + " / " + strings.Join(packets, " "))
}

// checkStep makes an event, compares with the table, and returns what comes of
// it, or the name of the error.
func checkStep(t *testing.T, name string, a impl.Archive, e impl.Event) (impl.Archive, string) {
	t.Helper()
	b, code := impl.StepArchive(a, e)
	wanted, second := stepBy(a, e)
	if code != int64(second) || !impl.SameArchive(b, wanted) {
		t.Errorf("%s: event %d %d %d %d: got %s, code %d, want %s, code %d", name, e.Kind, e.A, e.B, e.C, brief(b), code, brief(wanted), second)
	}
	if code != impl.OK {
		return a, impl.CodeName(code)
	}
	want(t, name+" is valid", list(impl.ValidArchive(b), validBy(b)), "[true true]")
	return b, brief(b)
}

// fullNotes are so many revocations, from 99 downwards.
func fullNotes(count int) []impl.Note {
	notes := []impl.Note{}
	for i := range int64(count) {
		notes = append(notes, revocation(99-i))
	}
	return notes
}

// without returns an event whose votes are too few.
func without(e impl.Event) impl.Event {
	e.Votes = tooFew
	return e
}

// TestPut: which Id is given, and when an entry is refused.
func TestPut(t *testing.T) {
	p, star := unitProof(t, 0), starProof(t, 1)
	some, full := someArchive(t), archive(upServer(0, append(fullNotes(19), entryNote(0, p))...), downServer())
	given, flying := archive(upServer(1, entryNote(1, p)), upServer(0), upServer(0, revocation(2), entryNote(5, p))), archive(upServer(0), upServer(0))
	flying.Flying = []impl.Packet{{Note: entryNote(1, p)}, {Note: revocation(0)}}
	last, mixed := []impl.Note{}, []impl.Note{}
	for id := range int64(19) {
		last, mixed = append(last, entryNote(4+5*id, p)), append(mixed, entryNote(5*id+id%5, p))
	}
	five := archive(upServer(0), upServer(0, mixed...), upServer(0), upServer(0), upServer(0, last...))
	for i, row := range []struct {
		a      impl.Archive
		e      impl.Event
		wanted string
	}{
		{some, put(0, p), "+ e1 r1 | e4 e0, + e1 e4 e7 r50 |, - e1 e7 | / 2e7 0r50"}, {some, put(1, p), "+ e1 r1 | e4, + e1 e4 e7 r50 | e10, - e1 e7 | / 2e7 0r50"}, {some, put(0, star, 1), "+ e1 r1 | e4 e0, + e1 e4 e7 r50 |, - e1 e7 | / 2e7 0r50"}, {some, put(0, starProof(t, 2), 4, 1), "+ e1 r1 | e4 e0, + e1 e4 e7 r50 |, - e1 e7 | / 2e7 0r50"},
		{some, put(0, wrongProof(t)), "+ e1 r1 | e4 e0, + e1 e4 e7 r50 |, - e1 e7 | / 2e7 0r50"}, {some, put(1, star, 7), "+ e1 r1 | e4, + e1 e4 e7 r50 | e10, - e1 e7 | / 2e7 0r50"}, // claims need not be shown, nor fit the rests
		{some, put(3, p), "range"}, {some, put(999, star, 99), "range"}, {some, without(put(3, p)), "range"}, {some, put(2, p), "state"}, {some, put(2, star, 1), "state"}, {some, without(put(2, p)), "state"}, {some, put(0, star, 7), "state"}, {some, put(0, starProof(t, 2), 1, 7), "state"}, {some, put(1, star, 50), "state"}, {some, without(put(0, star, 7)), "state"}, {some, without(put(0, p)), "proof"},
		{full, put(0, p), "limit"}, {full, put(0, star, 0), "limit"}, {full, put(0, star, 1), "state"}, {full, without(put(0, p)), "proof"}, {full, put(1, p), "state"}, {full, put(2, p), "range"},
		{given, put(1, p), "limit"}, {given, without(put(1, p)), "proof"}, {given, put(0, p), "+ e1 | e0, + |, + | r2 e5 /"}, {given, put(2, p), "limit"}, {flying, put(1, p), "limit"}, {flying, put(0, p), "+ | e0, + | / 0e1 0r0"},
		{archive(upServer(0), upServer(1, entryNote(0, p))), put(1, p), "+ |, + e0 | e1 /"}, {archive(upServer(0), upServer(1, entryNote(0, p))), put(0, p), "limit"}, {archive(upServer(0), upServer(1, entryNote(2, p))), put(0, p), "+ | e0, + e2 | /"}, {archive(upServer(1, entryNote(8, p), entryNote(6, p))), put(0, p), "+ e8 | e6 e2 /"}, {archive(upServer(1, entryNote(2, p), entryNote(9, p))), put(0, p), "limit"},
		{five, put(4, p), brief(archive(upServer(0), upServer(0, mixed...), upServer(0), upServer(0), upServer(0, append(slices.Clone(last), entryNote(99, p))...)))}, {five, put(1, p), brief(archive(upServer(0), upServer(0, append(slices.Clone(mixed), entryNote(21, p))...), upServer(0), upServer(0), upServer(0, last...)))}, {five, put(2, p), brief(archive(upServer(0), upServer(0, mixed...), upServer(0, entryNote(2, p)), upServer(0), upServer(0, last...)))},
		{archive(upServer(0, fullNotes(19)...)), put(0, p), brief(archive(upServer(0, append(fullNotes(19), entryNote(0, p))...)))}, {archive(upServer(0, fullNotes(20)...)), put(0, p), "limit"},
	} {
		_, got := checkStep(t, fmt.Sprint("row ", i), row.a, row.e)
		want(t, fmt.Sprint("row ", i), got, row.wanted)
	}
	lost := archive(upServer(0), upServer(0))
	for _, e := range []impl.Event{put(1, p), put(1, wrongProof(t)), event(impl.EvCrash, 1), event(impl.EvStart, 1), put(1, star), event(impl.EvSave, 1), put(1, p), event(impl.EvCrash, 1), event(impl.EvStart, 1), put(1, p), put(0, p)} {
		lost, _ = checkStep(t, "lost entries", lost, e)
	}
	want(t, "the Ids of lost entries are given again", brief(lost), "+ | e0, + e1 | e3 /")
	want(t, "an entry is kept as it is put", impl.SameArchive(lost, archive(upServer(0, entryNote(0, p)), upServer(1, entryNote(1, star), entryNote(3, p)))), true)
}

// TestEvents has the rows of the table but the first one, with their errors in
// order.
func TestEvents(t *testing.T) {
	p, some, full := unitProof(t, 0), someArchive(t), archive(upServer(0, fullNotes(20)...), downServer(fullNotes(20)...), upServer(1, revocation(0)))
	crowded := someArchive(t)
	crowded.Flying = slices.Repeat([]impl.Packet{{To: 1, Note: revocation(1)}}, 12)
	roomy := someArchive(t)
	roomy.Flying = crowded.Flying[:11]
	const none, rest, packets = "+ |, - |, + | /", ", + e1 e4 e7 r50 |, - e1 e7 |", " / 2e7 0r50"
	empty := archive(upServer(0), downServer(), upServer(0))
	for i, row := range []struct {
		a      impl.Archive
		kind   int64
		number [3]int64
		wanted string
	}{
		{some, impl.EvRevoke, [3]int64{0, 4}, "+ e1 r1 | e4 r4" + rest + packets}, {some, impl.EvRevoke, [3]int64{0, 99}, "+ e1 r1 | e4 r99" + rest + packets}, {some, impl.EvRevoke, [3]int64{1, 1}, "+ e1 r1 | e4, + e1 e4 e7 r50 | r1, - e1 e7 |" + packets}, {some, impl.EvRevoke, [3]int64{0, 0}, "+ e1 r1 | e4 r0" + rest + packets},
		{some, impl.EvRevoke, [3]int64{3, 1}, "range"}, {some, impl.EvRevoke, [3]int64{0, 100}, "range"}, {some, impl.EvRevoke, [3]int64{2, 100}, "range"}, {some, impl.EvRevoke, [3]int64{999, 999}, "range"}, {some, impl.EvRevoke, [3]int64{2, 1}, "state"}, {some, impl.EvRevoke, [3]int64{0, 1}, "state"}, {some, impl.EvRevoke, [3]int64{1, 50}, "state"},
		{full, impl.EvRevoke, [3]int64{0, 79}, "limit"}, {full, impl.EvRevoke, [3]int64{0, 80}, "state"}, {full, impl.EvRevoke, [3]int64{1, 0}, "state"}, {full, impl.EvRevoke, [3]int64{0, 100}, "range"}, {archive(upServer(0, fullNotes(19)...)), impl.EvRevoke, [3]int64{0, 80}, brief(archive(upServer(0, fullNotes(20)...)))},
		{some, impl.EvSend, [3]int64{0, 1, 0}, "+ e1 r1 | e4" + rest + packets + " 1e1"}, {some, impl.EvSend, [3]int64{0, 2, 1}, "+ e1 r1 | e4" + rest + packets + " 2r1"}, {some, impl.EvSend, [3]int64{1, 0, 3}, "+ e1 r1 | e4" + rest + packets + " 0r50"},
		{some, impl.EvSend, [3]int64{3, 0, 0}, "range"}, {some, impl.EvSend, [3]int64{0, 3, 0}, "range"}, {some, impl.EvSend, [3]int64{1, 1, 0}, "range"}, {some, impl.EvSend, [3]int64{2, 2, 0}, "range"}, {some, impl.EvSend, [3]int64{0, 1, 3}, "range"}, {some, impl.EvSend, [3]int64{2, 0, 2}, "range"}, {some, impl.EvSend, [3]int64{2, 3, 0}, "range"}, {some, impl.EvSend, [3]int64{999, 999, 999}, "range"},
		{some, impl.EvSend, [3]int64{0, 1, 2}, "state"}, {some, impl.EvSend, [3]int64{2, 0, 0}, "state"}, {crowded, impl.EvSend, [3]int64{0, 1, 0}, "limit"}, {crowded, impl.EvSend, [3]int64{0, 1, 2}, "state"}, {crowded, impl.EvSend, [3]int64{2, 1, 0}, "state"}, {crowded, impl.EvSend, [3]int64{0, 0, 0}, "range"}, {roomy, impl.EvSend, [3]int64{0, 1, 1}, brief(crowded)}, {empty, impl.EvSend, [3]int64{0, 2, 0}, "range"}, {empty, impl.EvSend, [3]int64{1, 2, 0}, "range"},
		{some, impl.EvDeliver, [3]int64{0}, "+ e1 r1 | e4" + rest + " / 0r50"}, {some, impl.EvDeliver, [3]int64{1}, "+ e1 r1 | e4 r50" + rest + " / 2e7"}, {some, impl.EvDeliver, [3]int64{2}, "range"}, {some, impl.EvDeliver, [3]int64{999}, "range"}, {empty, impl.EvDeliver, [3]int64{}, "range"},
		{some, impl.EvCopy, [3]int64{0}, brief(some)}, {some, impl.EvCopy, [3]int64{1}, "+ e1 r1 | e4 r50" + rest + packets}, {some, impl.EvCopy, [3]int64{2}, "range"}, {empty, impl.EvCopy, [3]int64{}, "range"},
		{some, impl.EvDrop, [3]int64{0}, "+ e1 r1 | e4" + rest + " / 0r50"}, {some, impl.EvDrop, [3]int64{1}, "+ e1 r1 | e4" + rest + " / 2e7"}, {some, impl.EvDrop, [3]int64{2}, "range"}, {empty, impl.EvDrop, [3]int64{}, "range"},
		{some, impl.EvSave, [3]int64{0}, "+ e1 r1 e4 |" + rest + packets}, {some, impl.EvSave, [3]int64{1}, brief(some)}, {some, impl.EvSave, [3]int64{2}, "state"}, {some, impl.EvSave, [3]int64{3}, "range"}, {empty, impl.EvSave, [3]int64{0}, none}, {empty, impl.EvSave, [3]int64{1}, "state"}, {full, impl.EvSave, [3]int64{0}, brief(archive(upServer(20, fullNotes(20)...), full.Servers[1], full.Servers[2]))},
		{some, impl.EvCrash, [3]int64{0}, "- e1 r1 |" + rest + packets}, {some, impl.EvCrash, [3]int64{1}, "+ e1 r1 | e4, - e1 e4 e7 r50 |, - e1 e7 |" + packets}, {some, impl.EvCrash, [3]int64{2}, "state"}, {some, impl.EvCrash, [3]int64{3}, "range"}, {full, impl.EvCrash, [3]int64{0}, brief(archive(downServer(), full.Servers[1], full.Servers[2]))}, {empty, impl.EvCrash, [3]int64{2}, "+ |, - |, - | /"},
		{some, impl.EvStart, [3]int64{2}, "+ e1 r1 | e4, + e1 e4 e7 r50 |, + e1 e7 |" + packets}, {some, impl.EvStart, [3]int64{0}, "state"}, {some, impl.EvStart, [3]int64{3}, "range"}, {some, impl.EvStart, [3]int64{999}, "range"}, {empty, impl.EvStart, [3]int64{1}, "+ |, + |, + | /"},
		{archive(upServer(0, entryNote(0, p))), impl.EvRevoke, [3]int64{0, 0}, "+ | e0 r0 /"}, {archive(upServer(0, entryNote(0, p))), impl.EvSend, [3]int64{0, 0, 0}, "range"}, {archive(upServer(1, entryNote(0, p))), impl.EvSend, [3]int64{0, 1, 0}, "range"}, {archive(upServer(0, entryNote(0, p))), impl.EvCrash, [3]int64{0}, "- | /"},
	} {
		_, got := checkStep(t, fmt.Sprint("row ", i), row.a, event(row.kind, row.number[:]...))
		want(t, fmt.Sprint("row ", i, ", kind ", row.kind, ", ", row.number), got, row.wanted)
	}
}

// TestTakenIn: a packet changes its server just if this is Up, does not know
// the note, and knows all on which it rests; only then a server may be full.
func TestTakenIn(t *testing.T) {
	p, revoked := unitProof(t, 0), revocation(0)
	entry, star, both := entryNote(0, p), entryNote(1, starProof(t, 1), 0), entryNote(2, starProof(t, 2), 3, 0)
	third := entryNote(3, p)
	for i, row := range []struct {
		s      impl.Server
		n      impl.Note
		wanted string // of the server, or the error
	}{
		{upServer(0), entry, "+ | e0"}, {upServer(0), revoked, "+ | r0"}, {downServer(), entry, "- |"}, {downServer(), revoked, "- |"}, {upServer(1, entry), entry, "+ e0 |"}, {upServer(0, entry), entry, "+ | e0"}, {upServer(1, entry), revoked, "+ e0 | r0"}, {upServer(1, revoked), entry, "+ r0 | e0"}, {upServer(1, revoked), revoked, "+ r0 |"},
		{upServer(0), star, "+ |"}, {upServer(0, entry), star, "+ | e0 e1"}, {upServer(1, revoked), star, "+ r0 |"}, {upServer(0, entry), both, "+ | e0"}, {upServer(0, third), both, "+ | e3"}, {upServer(2, entry, third), both, "+ e0 e3 | e2"}, {upServer(2, third, entry, both), both, "+ e3 e0 | e2"}, {upServer(0, third), star, "+ | e3"}, {downServer(entry), star, "- e0 |"}, {upServer(0), entryNote(5, starProof(t, 1), 5), "+ |"},
		{upServer(0, fullNotes(20)...), entry, "limit"}, {upServer(0, fullNotes(20)...), revoked, "limit"}, {upServer(0, append(fullNotes(19), entry)...), star, "limit"}, {upServer(0, fullNotes(19)...), entry, brief(archive(upServer(0, append(fullNotes(19), entry)...)))}, {upServer(20, append(fullNotes(19), entry)...), entry, brief(archive(upServer(20, append(fullNotes(19), entry)...)))},
		{upServer(0, fullNotes(20)...), revocation(85), brief(archive(upServer(0, fullNotes(20)...)))}, {upServer(0, fullNotes(20)...), star, brief(archive(upServer(0, fullNotes(20)...)))}, {downServer(fullNotes(20)...), entry, brief(archive(downServer(fullNotes(20)...)))},
	} {
		a := archive(row.s, upServer(0))
		a.Flying = []impl.Packet{{To: 1, Note: revocation(9)}, {Note: row.n}, {To: 1, Note: revocation(8)}}
		name, server := fmt.Sprint("row ", i), strings.TrimSuffix(row.wanted, " /")
		_, delivered := checkStep(t, name, a, event(impl.EvDeliver, 1))
		_, copied := checkStep(t, name, a, event(impl.EvCopy, 1))
		if row.wanted == "limit" {
			want(t, name, list(delivered, copied), "[limit limit]")
			continue
		}
		want(t, name, list(delivered, copied), list(server+", + | / 1r9 1r8", server+", + | / 1r9 0"+briefNote(row.n)+" 1r8"))
	}
}

// TestPacketsTwice: what comes twice is learned once, and what is lost can be
// sent again.
func TestPacketsTwice(t *testing.T) {
	a := archive(upServer(2, entryNote(0, unitProof(t, 0)), entryNote(2, starProof(t, 1), 0)), upServer(0))
	send, second := event(impl.EvSend, 0, 1, 0), event(impl.EvSend, 0, 1, 1)
	for i, row := range []struct {
		events []impl.Event
		wanted string
		made   int
	}{
		{[]impl.Event{send, event(impl.EvCopy), event(impl.EvCopy), event(impl.EvDeliver), event(impl.EvDeliver)}, "+ e0 e2 |, + | e0 /", 4}, {[]impl.Event{send, send, event(impl.EvDeliver), event(impl.EvDeliver)}, "+ e0 e2 |, + | e0 /", 4}, {[]impl.Event{send, event(impl.EvDrop), event(impl.EvDeliver), send, event(impl.EvDeliver)}, "+ e0 e2 |, + | e0 /", 4},
		{[]impl.Event{second, send, event(impl.EvDeliver), event(impl.EvDeliver)}, "+ e0 e2 |, + | e0 /", 4}, {[]impl.Event{second, send, event(impl.EvDeliver, 1), event(impl.EvDeliver)}, "+ e0 e2 |, + | e0 e2 /", 4}, {[]impl.Event{second, send, event(impl.EvCopy), event(impl.EvDeliver, 1), event(impl.EvCopy)}, "+ e0 e2 |, + | e0 e2 / 1e2", 5},
		{[]impl.Event{send, event(impl.EvCrash, 0), event(impl.EvDeliver), event(impl.EvCrash, 1), event(impl.EvStart, 1)}, "- e0 e2 |, + | /", 5}, {[]impl.Event{send, event(impl.EvCrash, 1), event(impl.EvCopy), event(impl.EvStart, 1), event(impl.EvDeliver)}, "+ e0 e2 |, + | e0 /", 5}, {[]impl.Event{send, event(impl.EvCopy), event(impl.EvSave, 1), event(impl.EvCrash, 1), event(impl.EvDeliver)}, "+ e0 e2 |, - e0 | /", 5},
	} {
		b, made, code := impl.RunArchive(a, row.events)
		want(t, fmt.Sprint("row ", i), list(brief(b), made, code), list(row.wanted, row.made, impl.OK))
	}
}

// TestCrashes: what is saved before a crash is there behind it.
func TestCrashes(t *testing.T) {
	notes := []impl.Note{entryNote(0, unitProof(t, 0)), revocation(0), entryNote(1, starProof(t, 1), 0)}
	for saved, wanted := range []string{"- |", "- e0 |", "- e0 r0 |", "- e0 r0 e1 |"} {
		a := archive(upServer(saved, notes...))
		b, got := checkStep(t, "a crash", a, event(impl.EvCrash))
		want(t, "a crash", got, wanted+" /")
		c, got := checkStep(t, "a start", b, event(impl.EvStart))
		want(t, "a start", got, "+"+wanted[1:]+" /")
		_, got = checkStep(t, "a revocation behind it", c, event(impl.EvRevoke, 0, 7))
		want(t, "a revocation behind it", got, "+"+wanted[1:]+" r7 /")
		for _, kind := range []int64{impl.EvCrash, impl.EvSave} {
			_, got := checkStep(t, "not Up", b, event(kind))
			want(t, "not Up", got, "state")
		}
		d, made, code := impl.RunArchive(a, []impl.Event{event(impl.EvCrash), event(impl.EvRevoke, 0, 7), put(0, unitProof(t, 0)), event(impl.EvCrash), event(impl.EvStart), event(impl.EvRevoke, 0, 9), event(impl.EvCrash)})
		want(t, "what is left out", list(brief(d), made, code), list(wanted+" /", 4, impl.OK))
	}
}

// TestRunArchive: how many events there may be, and which of them are made.
func TestRunArchive(t *testing.T) {
	a, p := archive(upServer(0), upServer(0)), unitProof(t, 0)
	most := slices.Repeat([]impl.Event{event(impl.EvSave, 0), event(impl.EvSave, 2), event(impl.EvSave, 1)}, 100)
	for _, row := range []struct {
		name   string
		events []impl.Event
		wanted string
		made   int
		code   int
	}{
		{"none", nil, "+ |, + | /", 0, impl.OK}, {"300 events", most, "+ |, + | /", 200, impl.OK}, {"301 events", append(slices.Clone(most), event(impl.EvSave)), "/", 0, impl.ErrRange}, {"301 refused ones", slices.Repeat([]impl.Event{event(impl.EvStart)}, 301), "/", 0, impl.ErrRange}, {"300 refused ones", slices.Repeat([]impl.Event{event(impl.EvStart)}, 300), "+ |, + | /", 0, impl.OK},
		{"301 events, one of them not valid", append(slices.Clone(most), event(0)), "/", 0, impl.ErrInvalid}, {"the last one not valid", []impl.Event{event(impl.EvSave), event(impl.EvSave, 1000)}, "/", 0, impl.ErrInvalid}, {"refused, then made", []impl.Event{event(impl.EvSave, 9), event(impl.EvRevoke, 0, 5), event(impl.EvRevoke, 0, 5), event(impl.EvRevoke, 1, 5)}, "+ | r5, + | r5 /", 2, impl.OK},
		{"more than there is room for", slices.Repeat([]impl.Event{put(1, p)}, 21), "+ |, + | e1 e3 e5 e7 e9 e11 e13 e15 e17 e19 e21 e23 e25 e27 e29 e31 e33 e35 e37 e39 /", 20, impl.OK}, {"what a refused one needs comes later", []impl.Event{put(0, starProof(t, 1), 0), put(0, p), put(0, starProof(t, 1), 0)}, "+ | e0 e2, + | /", 2, impl.OK},
		{"more packets than there may be", append([]impl.Event{put(0, p), event(impl.EvSave)}, slices.Repeat([]impl.Event{event(impl.EvSend, 0, 1)}, 14)...), "+ e0 |, + | / 1e0 1e0 1e0 1e0 1e0 1e0 1e0 1e0 1e0 1e0 1e0 1e0", 14, impl.OK}, {"a packet for a server that is full", append(slices.Repeat([]impl.Event{put(1, p)}, 20), put(0, p), event(impl.EvSave), event(impl.EvSend, 0, 1), event(impl.EvDeliver), event(impl.EvCrash, 1), event(impl.EvDeliver)), "+ e0 |, - | /", 25, impl.OK},
	} {
		b, made, code := impl.RunArchive(a, row.events)
		want(t, row.name, list(brief(b), made, code), list(row.wanted, row.made, row.code))
	}
	for name, e := range badEvents(t) {
		b, code := impl.StepArchive(a, e)
		c, made, second := impl.RunArchive(a, []impl.Event{event(impl.EvSave), e, event(impl.EvSave)})
		want(t, name, list(b, code, c, made, second), list(impl.Archive{}, impl.ErrInvalid, impl.Archive{}, 0, impl.ErrInvalid))
	}
	for i, e := range goodEvents(t) {
		checkStep(t, fmt.Sprint("good event ", i), a, e)
		checkStep(t, fmt.Sprint("good event ", i), someArchive(t), e)
	}
}

// isKept tells whether each server still has all that it has saved before, where
// it was.
func isKept(before, after impl.Archive) bool {
	for i, s := range before.Servers {
		if after.Servers[i].Saved < s.Saved || fmt.Sprint(after.Servers[i].Notes[:s.Saved]) != fmt.Sprint(s.Notes[:s.Saved]) {
			return false
		}
	}
	return true
}

// TestRandomEvents compares each event with the table, and all of them together;
// none loses what has been saved.
func TestRandomEvents(t *testing.T) {
	r, made := rand.New(rand.NewSource(310)), map[string]int{}
	for i := range 120 {
		start, _ := randomArchive(r, int64(1+i%5), []int{0, 60}[i%2])
		now, events := start, []impl.Event{}
		for range 60 {
			e := randomEvent(r, now)
			next, got := checkStep(t, brief(now), now, e)
			if !isKept(now, next) {
				t.Errorf("event %d of %s loses what is saved: %s", e.Kind, brief(now), brief(next))
			}
			if got == "range" || got == "state" || got == "limit" || got == "proof" {
				made[fmt.Sprint(e.Kind, got)]++
			} else {
				made[fmt.Sprint(e.Kind, "ok")]++
			}
			now, events = next, append(events, e)
		}
		b, count, code := impl.RunArchive(start, events)
		_, wanted := runBy(start, events)
		want(t, "all events together", list(impl.SameArchive(b, now), count, code), list(true, wanted, impl.OK))
	}
	for _, key := range []string{"1ok", "1range", "1state", "1proof", "2ok", "2range", "2state", "3ok", "3range", "3state", "4ok", "4range", "5ok", "5range", "6ok", "6range", "7ok", "7range", "7state", "8ok", "8range", "8state", "9ok", "9range", "9state"} {
		if made[key] < 10 {
			t.Errorf("only %d times %s: %v", made[key], key, made)
		}
	}
}

// majorityRevoked are the Ids whose revocations more than half of all servers
// have saved.
func majorityRevoked(a impl.Archive) []int64 {
	ids := []int64{}
	for id := range int64(100) {
		if 2*len(savedBy(a, true, id)) > len(a.Servers) {
			ids = append(ids, id)
		}
	}
	return ids
}

// TestRevocationsStay: once more than half of all servers have saved a
// revocation, nobody tells a lemma that rests on the revoked one, whatever comes.
func TestRevocationsStay(t *testing.T) {
	r, refusals := rand.New(rand.NewSource(311)), 0
	for i := range 60 {
		a, _ := randomArchive(r, int64(1+i%5), 40)
		for _, s := range r.Perm(len(a.Servers))[:len(a.Servers)/2+1] {
			a, _ = runBy(a, []impl.Event{event(impl.EvStart, int64(s)), event(impl.EvRevoke, int64(s), int64(i%8)), event(impl.EvSave, int64(s))})
		}
		gone := majorityRevoked(a)
		for range 25 {
			a, _ = stepOrStay(a, randomEvent(r, a))
			for _, asked := range subsets(len(a.Servers)) {
				for id := range int64(24) {
					_, code := impl.TellLemma(a, id, asked)
					if code == impl.OK && restsOnAny(a, id, gone) {
						t.Errorf("%s: %v tell %d, but %v is revoked", brief(a), asked, id, gone)
					}
					refusals += one01(code == impl.ErrProof)
				}
			}
			for _, id := range gone {
				if now := majorityRevoked(a); !slices.Contains(now, id) {
					t.Errorf("%s: the revocation of %d is lost", brief(a), id)
				}
			}
		}
	}
	if refusals < 1000 {
		t.Errorf("only %d lemmas are refused", refusals)
	}
}

// stepOrStay makes an event, if it can be made.
func stepOrStay(a impl.Archive, e impl.Event) (impl.Archive, bool) {
	b, code := impl.StepArchive(a, e)
	if code != impl.OK {
		return a, false
	}
	return b, true
}

// restsOnAny tells whether one of the Ids is in the closure of a lemma, as some
// server knows it.
func restsOnAny(a impl.Archive, id int64, ids []int64) bool {
	for _, s := range a.Servers {
		if knows(s, all(s), false, id) && slices.ContainsFunc(closureBy(s, id), func(x int64) bool { return slices.Contains(ids, x) }) {
			return true
		}
	}
	return false
}
