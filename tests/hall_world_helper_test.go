package tests

import (
	"fmt"
	"slices"
	"testing"

	"loop.example/wharfhall/impl"
)

func copyHouse(h impl.HallHouse) impl.HallHouse {
	out := impl.HallHouse{Teams: slices.Clone(h.Teams), Grants: slices.Clone(h.Grants)}
	for i := range out.Grants {
		out.Grants[i].Rule.Verbs = slices.Clone(out.Grants[i].Rule.Verbs)
	}
	return out
}

func copyHallWorld(w impl.HallWorld) impl.HallWorld {
	return impl.HallWorld{House: copyHouse(w.House), Rec: copyRecWorld(w.Rec), Now: w.Now, Asked: slices.Clone(w.Asked)}
}

func sameHouse(a, b impl.HallHouse) bool {
	return slices.Equal(a.Teams, b.Teams) && slices.EqualFunc(a.Grants, b.Grants, sameGrant)
}

func sameGrant(a, b impl.GateGrant) bool {
	same := slices.Equal(a.Rule.Verbs, b.Rule.Verbs)
	return same && a.Number == b.Number && a.To == b.To && a.By == b.By && a.Rule.Kind == b.Rule.Kind && a.Rule.Team == b.Rule.Team && a.Rule.Prefix == b.Rule.Prefix
}

func sameHallWorld(a, b impl.HallWorld) bool {
	return sameHouse(a.House, b.House) && sameRecWorld(a.Rec, b.Rec) && a.Now == b.Now && slices.Equal(a.Asked, b.Asked)
}

// hallWorldTold writes a world as far as somebody would read it.
func hallWorldTold(w impl.HallWorld) string {
	return fmt.Sprintf("a world at %d of %.300q with %s\n\tasked %.1500q", w.Now, fmt.Sprintf("%+v", w.House), recWorldTold(w.Rec), fmt.Sprintf("%+v", w.Asked))
}

func hallEventTold(e impl.HallEvent) string {
	return fmt.Sprintf("the Kind %d with %d, %d, %q, %+v and %s", e.Kind, e.A, e.B, e.Door, e.Ask, entryTold(e.Entry))
}

// asksEvent is somebody who asks for the entry of a text at a recorder.
func asksEvent(t *testing.T, at int, text string) impl.HallEvent {
	t.Helper()
	return impl.HallEvent{Kind: impl.HallAsks, A: at, Entry: readEntry(t, text)}
}

// throughEvent is an ask through the door d1.
func throughEvent(t *testing.T, at, number int, told string) impl.HallEvent {
	t.Helper()
	return impl.HallEvent{Kind: impl.HallThrough, A: at, B: number, Door: "d1", Ask: askOf(t, told)}
}

func hallEvent(kind, a, b int) impl.HallEvent {
	return impl.HallEvent{Kind: kind, A: a, B: b}
}

func wantHallWorld(t *testing.T, what string, w impl.HallWorld, want bool) {
	t.Helper()
	if worded := hallWorldByHand(w); worded != want {
		t.Errorf("%s: by the document's words %s\nis ok: %v", what, hallWorldTold(w), worded)
	}
	if got := impl.HallWorldOk(w); got != want {
		t.Errorf("%s: HallWorldOk of %s\n= %v", what, hallWorldTold(w), got)
	}
	if !want {
		wantNothingOfWorld(t, what, w)
	}
}

// wantNothingOfWorld asks that in a world that is not ok nothing happens and nothing is told.
func wantNothingOfWorld(t *testing.T, what string, w impl.HallWorld) {
	t.Helper()
	for kind := -1; kind <= 16; kind++ {
		e := impl.HallEvent{Kind: kind, B: 1, Door: "d1", Ask: askOf(t, "ann make web dock fleet 1,2,,,,"), Entry: readEntry(t, "sea 1 tick")}
		wantHallStep(t, what, w, e, impl.HallWorld{})
	}
	for _, rounds := range []int{-1, 0, 1, 1001} {
		if got := impl.HallCalm(w, rounds); !sameHallWorld(got, impl.HallWorld{}) {
			t.Errorf("%s: %d rounds of %s\nare %s", what, rounds, hallWorldTold(w), hallWorldTold(got))
		}
	}
	for at := -1; at <= 6; at++ {
		wantView(t, what, w, at, impl.HallBook{})
	}
	wantFixedTexts(t, what, w)
	wantRight(t, what, w, false)
	wantHallDone(t, what, w, false)
}

func wantView(t *testing.T, what string, w impl.HallWorld, at int, want impl.HallBook) {
	t.Helper()
	if worded := hallViewByHand(w, at); !sameHall(worded, want) {
		t.Errorf("%s: by the document's words %d of %s\nsees %s,\nnot %s", what, at, hallWorldTold(w), hallTold(worded), hallTold(want))
	}
	if got := impl.HallView(w, at); !sameHall(got, want) {
		t.Errorf("%s: HallView of %d in %s\n= %s,\nnot %s", what, at, hallWorldTold(w), hallTold(got), hallTold(want))
	}
}

// wantHallStep asks the same of the document's words by hand, so that neither is trusted alone.
func wantHallStep(t *testing.T, what string, w impl.HallWorld, e impl.HallEvent, want impl.HallWorld) impl.HallWorld {
	t.Helper()
	if worded := hallStepByHand(w, e); !sameHallWorld(worded, want) {
		t.Errorf("%s: by the document's words %s of %s\nis %s,\nnot %s", what, hallEventTold(e), hallWorldTold(w), hallWorldTold(worded), hallWorldTold(want))
	}
	got := impl.HallStep(w, e)
	if !sameHallWorld(got, want) {
		t.Errorf("%s: %s of %s\nis %s,\nnot %s", what, hallEventTold(e), hallWorldTold(w), hallWorldTold(got), hallWorldTold(want))
	}
	return got
}

// hallStepped asks for the world that the document's words lead to, and for promise 45.
func hallStepped(t *testing.T, what string, w impl.HallWorld, e impl.HallEvent) impl.HallWorld {
	t.Helper()
	got := wantHallStep(t, what, w, e, hallStepByHand(w, e))
	if impl.HallWorldOk(w) && !impl.HallWorldOk(got) {
		t.Errorf("%s: %s of %s\nis %s,\nwhich is not ok", what, hallEventTold(e), hallWorldTold(w), hallWorldTold(got))
	}
	return got
}

// stepTurned asks that an event makes Now one more, and that beside this just what is told is turned.
func stepTurned(t *testing.T, what string, w impl.HallWorld, e impl.HallEvent, turns ...func(w *impl.HallWorld)) impl.HallWorld {
	t.Helper()
	want := copyHallWorld(w)
	want.Now++
	for _, turn := range turns {
		turn(&want)
	}
	return wantHallStep(t, what, w, e, want)
}

// turnedHallWorld leaves the one that it is given as it is.
func turnedHallWorld(w impl.HallWorld, turns ...func(w *impl.HallWorld)) impl.HallWorld {
	w = copyHallWorld(w)
	for _, turn := range turns {
		turn(&w)
	}
	return w
}

// hallCalmed asks for the world that the document's words lead to, and for promise 45.
func hallCalmed(t *testing.T, what string, w impl.HallWorld, rounds int) impl.HallWorld {
	t.Helper()
	got, want := impl.HallCalm(w, rounds), hallCalmByHand(w, rounds)
	if !sameHallWorld(got, want) {
		t.Errorf("%s: %d rounds of %s\nare %s,\nnot %s", what, rounds, hallWorldTold(w), hallWorldTold(got), hallWorldTold(want))
	}
	if impl.HallWorldOk(w) && !impl.HallWorldOk(got) {
		t.Errorf("%s: %d rounds of %s\nare %s,\nwhich is not ok", what, rounds, hallWorldTold(w), hallWorldTold(got))
	}
	return got
}

func wantFixedTexts(t *testing.T, what string, w impl.HallWorld, texts ...string) {
	t.Helper()
	if worded := fixedTextsByHand(w); !slices.Equal(worded, texts) {
		t.Errorf("%s: by the document's words %q are fixed, not %q", what, worded, texts)
	}
	if got := impl.HallFixed(w); !slices.Equal(got, texts) {
		t.Errorf("%s: HallFixed of %s\n= %q, not %q", what, hallWorldTold(w), got, texts)
	}
}

func wantRight(t *testing.T, what string, w impl.HallWorld, want bool) {
	t.Helper()
	if worded := rightByHand(w); worded != want {
		t.Errorf("%s: by the document's words %s\nis right: %v", what, hallWorldTold(w), worded)
	}
	if got := impl.HallRight(w); got != want {
		t.Errorf("%s: HallRight of %s\n= %v", what, hallWorldTold(w), got)
	}
}

func wantHallDone(t *testing.T, what string, w impl.HallWorld, want bool) {
	t.Helper()
	if worded := doneHallByHand(w); worded != want {
		t.Errorf("%s: by the document's words %s\nis done: %v", what, hallWorldTold(w), worded)
	}
	if got := impl.HallDone(w); got != want {
		t.Errorf("%s: HallDone of %s\n= %v", what, hallWorldTold(w), got)
	}
}

// knowing lets a recorder know texts, all of them safe, under a ballot.
func knowing(ballot int, texts ...string) recTurn {
	return func(r *impl.Recorder) {
		d := impl.RecDisk{Promise: ballot, Known: len(texts)}
		for _, text := range texts {
			d.Slots = append(d.Slots, impl.RecSlot{Ballot: ballot, Text: text})
		}
		r.Safe, r.Disk = d, impl.RecDisk{Promise: ballot, Known: len(texts), Slots: slices.Clone(d.Slots)}
	}
}

// toldWorld is a world of yardHouse with n recorders that all know the same texts, which are fixed. Nobody leads.
func toldWorld(n int, texts ...string) impl.HallWorld {
	w := impl.HallNew(yardHouse(), n)
	for i := range w.Rec.Recorders {
		knowing(n, texts...)(&w.Rec.Recorders[i])
	}
	for i, text := range texts {
		w.Rec.Fixed = append(w.Rec.Fixed, impl.RecFix{Index: i + 1, Text: text})
	}
	return w
}

// leading lets a recorder lead under its disk's promise.
func leading(r *impl.Recorder) {
	r.Lead, r.Ballot = true, r.Disk.Promise
}

// hallRecorderAt turns one recorder of a world.
func hallRecorderAt(at int, turn recTurn) func(w *impl.HallWorld) {
	return func(w *impl.HallWorld) { turn(&w.Rec.Recorders[at]) }
}

// wishingFor puts texts behind a recorder's wishes.
func wishingFor(at int, texts ...string) func(w *impl.HallWorld) {
	return hallRecorderAt(at, func(r *impl.Recorder) { r.Wishes = append(r.Wishes, texts...) })
}

// asking puts a text behind what was asked, at the time that it is by then.
func asking(text string) func(w *impl.HallWorld) {
	return func(w *impl.HallWorld) { w.Asked = append(w.Asked, impl.HallAsked{Text: text, From: w.Now}) }
}

// hearing has the answer of what was asked at a place be heard, at the time that it is by then.
func hearing(at int, said impl.GateSaid) func(w *impl.HallWorld) {
	return func(w *impl.HallWorld) { w.Asked[at].To, w.Asked[at].Said = w.Now, said }
}
