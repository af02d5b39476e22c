package tests

import (
	"fmt"
	"math/rand"
	"slices"
	"testing"

	"loop.example/g01101/impl"
)

// This file tests how servers come to know the same: promise 21.

func eventsText(events []impl.Event) string {
	text := ""
	for _, e := range events {
		numbers := []int64{e.A, e.B, e.C}[:map[int64]int{impl.EvRevoke: 2, impl.EvSend: 3}[e.Kind]+one01(e.Kind != impl.EvRevoke && e.Kind != impl.EvSend)]
		text += []string{"", "put", "revoke", "send", "deliver", "copy", "drop", "save", "crash", "start"}[e.Kind]
		for _, x := range numbers {
			text += " " + digit(x)
		}
		text += ", "
	}
	return text
}

// checkSpread compares with the definition and, where all can be made, looks at
// what the servers know then. It tells how many events there are.
func checkSpread(t *testing.T, a impl.Archive) (int, int64) {
	t.Helper()
	events, code := impl.SpreadEvents(a)
	wanted, second := spreadBy(a)
	want(t, brief(a), list(eventsText(events), code), list(eventsText(wanted), second))
	if code != impl.OK {
		return len(events), code
	}
	for _, e := range events {
		want(t, "an event", list(impl.ValidEvent(a, e), len(e.Rests), len(e.Votes), len(e.Proof.Claims)), "[true 0 0 0]")
	}
	b, made, code := impl.RunArchive(a, events)
	want(t, brief(a)+", all made", list(made, code, len(b.Flying)), list(len(events), impl.OK, 0))
	known := ""
	for i, s := range b.Servers {
		want(t, "who is Up", s.Up, a.Servers[i].Up)
		if !s.Up {
			want(t, "a server that is not Up", fmt.Sprint(s), fmt.Sprint(a.Servers[i]))
			continue
		}
		knows := fmt.Sprint(idsBy(s, false), idsBy(s, true))
		if known == "" {
			known = knows
		}
		want(t, brief(b)+", the same", list(knows, s.Saved), list(known, all(s)))
		for _, n := range a.Servers[i].Notes {
			if !slices.ContainsFunc(s.Notes, func(m impl.Note) bool { return noteText(m) == noteText(n) }) {
				t.Errorf("%s: %s is lost", brief(b), briefNote(n))
			}
		}
	}
	return len(events), code
}

// TestSpreadEvents: the events in their order.
func TestSpreadEvents(t *testing.T) {
	p := unitProof(t, 0)
	entry, star, second, revoked := entryNote(0, p), entryNote(1, starProof(t, 1), 0), entryNote(2, p), revocation(0)
	flying := archive(upServer(0), downServer(), upServer(0))
	flying.Flying = []impl.Packet{{Note: entry}, {To: 1, Note: revoked}, {To: 2, Note: star}}
	for i, row := range []struct {
		a      impl.Archive
		wanted string
	}{
		{archive(upServer(0)), "save 0, save 0, "}, {archive(downServer()), ""}, {archive(downServer(entry), downServer()), ""}, {archive(upServer(0, entry, revoked)), "save 0, save 0, "}, {archive(upServer(0), downServer(entry), upServer(0)), "save 0, save 2, save 0, save 2, "}, {flying, "drop 0, drop 0, drop 0, save 0, save 2, save 0, save 2, "},
		{archive(upServer(0, entry), upServer(0)), "save 0, save 1, send 0 1 0, deliver 0, save 0, save 1, "}, {archive(upServer(0), upServer(1, entry)), "save 0, save 1, send 1 0 0, deliver 0, save 0, save 1, "}, {archive(upServer(1, entry), upServer(0, entry)), "save 0, save 1, save 0, save 1, "}, {archive(upServer(0, entry), upServer(0, revoked)), "save 0, save 1, send 0 1 0, deliver 0, send 1 0 0, deliver 0, save 0, save 1, "},
		{archive(upServer(0, entry, star), upServer(0), downServer(second), upServer(0, revoked, entry)), "save 0, save 1, save 3, send 0 1 0, deliver 0, send 0 1 1, deliver 0, send 0 3 1, deliver 0, send 3 0 0, deliver 0, send 3 1 0, deliver 0, save 0, save 1, save 3, "},
		{archive(upServer(0), upServer(0, second), upServer(0, second, entry, star)), "save 0, save 1, save 2, send 1 0 0, deliver 0, send 2 0 1, deliver 0, send 2 1 1, deliver 0, send 2 0 2, deliver 0, send 2 1 2, deliver 0, save 0, save 1, save 2, "},
		{archive(upServer(0, second, entry), upServer(2, entry, star)), "save 0, save 1, send 0 1 0, deliver 0, send 1 0 1, deliver 0, save 0, save 1, "}, {archive(downServer(second), upServer(0, entry), downServer(), upServer(0), downServer(entry, star)), "save 1, save 3, send 1 3 0, deliver 0, save 1, save 3, "},
	} {
		events, code := impl.SpreadEvents(row.a)
		want(t, fmt.Sprint("row ", i), list(eventsText(events), code), list(row.wanted, impl.OK))
		checkSpread(t, row.a)
	}
}

// TestSpreadLimits: servers that are just full, or would have to learn one note
// more, and the most events that there can be.
func TestSpreadLimits(t *testing.T) {
	p := unitProof(t, 0)
	entry, twenty, lower := entryNote(0, p), fullNotes(20), []impl.Note{}
	for id := range int64(20) {
		lower = append(lower, revocation(id))
	}
	most, none := archive(upServer(20, twenty...), upServer(0), upServer(0), upServer(0), upServer(0)), impl.Packet{Note: entry}
	most.Flying = slices.Repeat([]impl.Packet{none}, 12)
	last := archive(upServer(0), upServer(0), upServer(0), upServer(0), upServer(0, append(fullNotes(19), entry)...))
	last.Flying = most.Flying
	shares := archive(upServer(0, lower[:4]...), upServer(0, lower[4:8]...), upServer(0, lower[8:12]...), upServer(0, lower[12:16]...), upServer(0, lower[16:]...))
	for i, row := range []struct {
		a      impl.Archive
		events int
		code   int
	}{
		{archive(upServer(0, twenty...), upServer(0)), 44, impl.OK}, {archive(upServer(0, twenty...), upServer(0, twenty...)), 4, impl.OK}, {archive(upServer(0, twenty...), upServer(1, entry)), 0, impl.ErrLimit}, {archive(upServer(0, entry), upServer(0, twenty...)), 0, impl.ErrLimit}, {archive(upServer(0, entry), downServer(twenty...)), 2, impl.OK}, {archive(downServer(entry), upServer(0, twenty...)), 2, impl.OK},
		{archive(upServer(0, append(fullNotes(19), entry)...), upServer(0, entry)), 4 + 38, impl.OK}, {archive(upServer(0, fullNotes(19)...), upServer(0, entry)), 4 + 38 + 2, impl.OK}, {archive(upServer(0, fullNotes(19)...), upServer(0, entry), upServer(0, revocation(0))), 0, impl.ErrLimit}, {archive(upServer(0, fullNotes(19)...), upServer(0, entry), downServer(revocation(0))), 44, impl.OK},
		{archive(upServer(0, lower[:10]...), upServer(0, lower[10:]...)), 44, impl.OK}, {archive(upServer(0, lower[:10]...), upServer(0, append(slices.Clone(lower[10:]), revocation(20))...)), 0, impl.ErrLimit}, {archive(upServer(0, lower[:11]...), upServer(0, lower[10:]...)), 4 + 38, impl.OK}, {shares, 10 + 160, impl.OK}, {most, 12 + 10 + 160, impl.OK}, {last, 12 + 10 + 160, impl.OK},
	} {
		count, code := checkSpread(t, row.a)
		want(t, fmt.Sprint("row ", i), list(count, code), list(row.events, row.code))
	}
}

// TestRandomSpread: random archives with packets under way; what is spread stays
// over crashes.
func TestRandomSpread(t *testing.T) {
	r, counts := rand.New(rand.NewSource(330)), map[int64]int{}
	for i := range 250 {
		a, _ := randomArchive(r, int64(1+i%5), 10+i%90)
		if i%3 == 0 {
			a.Servers[0].Notes = append(slices.Clone(a.Servers[0].Notes), fullNotes(20-len(a.Servers[0].Notes))...)
			a.Servers[0].Saved = all(a.Servers[0])
		}
		if !validBy(a) { // where a revocation occurs twice
			continue
		}
		count, code := checkSpread(t, a)
		counts[code]++
		if code != impl.OK {
			continue
		}
		events, _ := impl.SpreadEvents(a)
		b, _, _ := impl.RunArchive(a, events)
		again, code := impl.SpreadEvents(b)
		ups := 0
		for i, s := range b.Servers {
			ups += one01(s.Up)
			if s.Up {
				b, _, _ = impl.RunArchive(b, []impl.Event{event(impl.EvCrash, int64(i)), event(impl.EvStart, int64(i))})
			}
		}
		want(t, "nothing is left to be spread", list(len(again), code), list(2*ups, impl.OK))
		c, _, _ := impl.RunArchive(a, events)
		want(t, "crashes behind it change nothing", list(brief(b), count), list(brief(c), len(events)))
	}
	if counts[impl.OK] < 100 || counts[impl.ErrLimit] < 20 {
		t.Errorf("counts: %v", counts)
	}
}

// TestLostAndTwice: servers that are Up come to know the same by sending what
// has been lost again, whatever comes twice.
func TestLostAndTwice(t *testing.T) {
	r := rand.New(rand.NewSource(331))
	for i := range 60 {
		a, _ := randomArchive(r, int64(2+i%4), 30)
		events, code := impl.SpreadEvents(a)
		if code != impl.OK {
			continue
		}
		wanted, _, _ := impl.RunArchive(a, events)
		b := a
		for _, e := range events {
			switch { // a packet is lost and sent again, or is taken in twice
			case e.Kind == impl.EvDeliver && r.Intn(2) == 0:
				b, _ = runBy(b, []impl.Event{event(impl.EvCopy), event(impl.EvCopy)})
			case e.Kind == impl.EvSend && r.Intn(2) == 0:
				b, _ = runBy(b, []impl.Event{e, event(impl.EvDrop)})
			}
			b, _ = stepOrStay(b, e)
		}
		want(t, "the same in the end", list(brief(b), impl.SameArchive(b, wanted)), list(brief(wanted), true))
	}
}
