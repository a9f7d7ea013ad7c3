package tests

import (
	"slices"
	"testing"

	"loop.example/wharfhall/impl"
)

// unnoted has much that is fixed, and nothing of it noted: the place 1 by most, 2 by one that knows it, 3 by both, 4 by
// none of them. There is a message that changes nothing.
func unnoted() impl.RecWorld {
	w := safeWorld("3:a 3:x 4:m 3:p", "3:a 5:y 4:m 4:p", "3:b 0: 4:n")
	w.Recorders[1].Disk.Known = 2
	w.Recorders[2].Disk = disk(20, 3, "3:b 7:y 7:n")
	w.Flight = plainFlight(1)
	return w
}

// What is fixed is noted behind a tick and behind a message that was brought, and behind nothing else.
func TestWhenItIsNoted(t *testing.T) {
	w := unnoted()
	wantRecWorld(t, "unnoted", w, true)
	wantAgree(t, "unnoted", w, false)
	wantFixed(t, "a message was brought", recDone(t, "brought", w, recEvent(impl.RecEvBring, 0)), "1:a 2:y 3:m")
	down := turnedRecWorld(w, recorderAt(0, func(r *impl.Recorder) { r.Up = false }))
	wantFixed(t, "brought in vain", recDone(t, "brought in vain", down, recEvent(impl.RecEvBring, 0)), "1:a 2:y 3:m")
	for _, e := range allRecEvents() {
		if e.Kind == impl.RecEvTick || e.Kind == impl.RecEvBring && e.A == 0 {
			continue
		}
		if got := recDone(t, "not noted", w, e); len(got.Fixed) != 0 {
			t.Errorf("%s noted %v", recEventTold(e), got.Fixed)
		}
	}
	for _, rounds := range []int{-1, 0} {
		if got := wantRecCalm(t, "no round", w, rounds); len(got.Fixed) != 0 {
			t.Errorf("%d rounds noted %v", rounds, got.Fixed)
		}
	}
}

// A tick makes the disks safe first, so that what most have only written is fixed by it.
func TestATickNotesWhatItMakesSafe(t *testing.T) {
	w := impl.RecNewWorld(3)
	for at := range 3 {
		if at < 2 {
			w.Recorders[at].Disk = disk(5, 0, "2:a 3:b")
		}
		got := recDone(t, "a tick", w, recTickEvent())
		if at == 0 {
			wantFixed(t, "a tick", got, "")
		} else {
			wantFixed(t, "a tick", got, "1:a 2:b")
		}
		w.Flight = plainFlight(1)
		wantFixed(t, "brought, and not safe", recDone(t, "brought", w, recEvent(impl.RecEvBring, 0)), "")
		w.Flight = nil
	}
	// What is safe on a disk by one tick is what most have then, not before: one that is down keeps its own.
	w = safeWorld("2:a", "3:b", "3:c")
	w.Recorders[0].Disk = disk(5, 0, "3:c")
	wantFixed(t, "a tick", recDone(t, "a tick", w, recTickEvent()), "1:c")
	w.Recorders[0].Up = false
	wantFixed(t, "a tick of one that is down", recDone(t, "a tick", w, recTickEvent()), "")
}

// noteCase is a world of which one message is brought that changes nothing, and what is fixed then.
type noteCase struct {
	what  string
	w     impl.RecWorld
	turns []func(w *impl.RecWorld)
	fixed string
}

func wantNotes(t *testing.T, cases []noteCase) {
	t.Helper()
	for _, c := range cases {
		w := turnedRecWorld(c.w, c.turns...)
		w.Flight = plainFlight(1)
		wantRecWorld(t, c.what, w, true)
		got := recDone(t, c.what, w, recEvent(impl.RecEvBring, 0))
		wantFixed(t, c.what, got, c.fixed)
		wantFixed(t, c.what+", again", recDone(t, c.what, turnedRecWorld(got, func(w *impl.RecWorld) { w.Flight = plainFlight(1) }), recEvent(impl.RecEvBring, 0)), c.fixed)
	}
}

func TestWhatIsNoted(t *testing.T) {
	knowing := func(at int, promise, known int, row string) func(w *impl.RecWorld) {
		return recorderAt(at, func(r *impl.Recorder) { r.Disk = disk(promise, known, row) })
	}
	fixed := func(row string) func(w *impl.RecWorld) {
		return func(w *impl.RecWorld) { w.Fixed = fixes(row) }
	}
	falls := func(at int) func(w *impl.RecWorld) {
		return recorderAt(at, func(r *impl.Recorder) { r.Up = false })
	}
	wantNotes(t, []noteCase{
		{"nothing", impl.RecNewWorld(3), nil, ""},
		{"one of three has it", safeWorld("3:a", "", ""), nil, ""},
		{"two of three have it", safeWorld("3:a", "3:a", ""), nil, "1:a"},
		{"the last two have it", safeWorld("", "3:a", "3:a"), nil, "1:a"},
		{"an empty text", safeWorld("3:", "3:", ""), nil, "1:"},
		{"nothing was taken", safeWorld("0:", "0:", "0:"), nil, ""},
		{"behind a place that nothing was taken for", safeWorld("0: 3:a", "0: 3:a", ""), nil, "2:a"},
		{"a text under two ballots", safeWorld("3:a", "4:a", ""), nil, ""},
		{"a text under three ballots", safeWorld("3:a", "4:a", "5:a"), nil, ""},
		{"two texts under one ballot", safeWorld("3:a", "3:b", ""), nil, ""},
		{"those who are down count", safeWorld("3:a", "3:a", ""), []func(w *impl.RecWorld){falls(1), falls(2)}, "1:a"},
		{"written, not safe", impl.RecNewWorld(3), []func(w *impl.RecWorld){knowing(0, 5, 0, "3:a"), knowing(1, 5, 0, "3:a")}, ""},
		{"one knows it", impl.RecNewWorld(3), []func(w *impl.RecWorld){knowing(2, 5, 1, "3:a 3:b")}, "1:a"},
		{"one knows an empty text", impl.RecNewWorld(3), []func(w *impl.RecWorld){knowing(0, 5, 2, "3: 3:b")}, "1: 2:b"},
		{"one knows it that is down", impl.RecNewWorld(2), []func(w *impl.RecWorld){knowing(1, 5, 1, "3:a"), falls(1)}, "1:a"},
		{"safe is known, and the disk is not", impl.RecNewWorld(2), []func(w *impl.RecWorld){recorderAt(0, func(r *impl.Recorder) { r.Safe = disk(5, 1, "3:a") })}, ""},
		{"the first of two who know it", impl.RecNewWorld(3), []func(w *impl.RecWorld){knowing(1, 5, 1, "3:a"), knowing(2, 5, 1, "5:b")}, "1:a"},
		{"the first of three who know it", impl.RecNewWorld(3), []func(w *impl.RecWorld){knowing(0, 9, 1, "1:c"), knowing(1, 5, 1, "3:a"), knowing(2, 5, 1, "5:b")}, "1:c"},
		{"the first knows less", impl.RecNewWorld(3), []func(w *impl.RecWorld){knowing(0, 9, 1, "1:c 1:d"), knowing(1, 5, 2, "3:a 3:b"), knowing(2, 5, 3, "5:x 5:y 5:z")}, "1:c 2:b 3:z"},
		{"most have it, and one knows another text", safeWorld("3:a", "3:a", ""), []func(w *impl.RecWorld){knowing(2, 9, 1, "9:b")}, "1:a"},
		{"most have it, and the first knows another text", safeWorld("3:a", "3:a", ""), []func(w *impl.RecWorld){knowing(0, 9, 2, "9:b 9:c")}, "1:a 2:c"},
		{"fixed already", safeWorld("3:a 3:b", "3:a 3:b", ""), []func(w *impl.RecWorld){fixed("1:other")}, "1:other 2:b"},
		{"fixed already as an empty text", safeWorld("3:a", "3:a", ""), []func(w *impl.RecWorld){fixed("1:")}, "1:"},
		{"fixed already, and known as another text", impl.RecNewWorld(2), []func(w *impl.RecWorld){fixed("2:x"), knowing(0, 9, 3, "9:a 9:b 9:c")}, "1:a 2:x 3:c"},
		{"fixed already, and with nobody", impl.RecNewWorld(2), []func(w *impl.RecWorld){fixed("7:x 120:y")}, "7:x 120:y"},
		{"among those that are fixed", safeWorld("1:a 1:b 1:c 1:d", "1:a 0: 1:c 1:d", "0: 0: 0: 1:d"), []func(w *impl.RecWorld){fixed("2:x 4:y 6:z")}, "1:a 2:x 3:c 4:y 6:z"},
		{"one alone", safeWorld("3:a 0: 4:c"), nil, "1:a 3:c"},
		{"one of two", safeWorld("3:a", "4:a"), nil, ""},
		{"both of two", safeWorld("3:a", "3:a"), nil, "1:a"},
		{"two of four", safeWorld("3:a", "3:a", "", "4:a"), nil, ""},
		{"three of four", safeWorld("3:a", "3:a", "", "3:a"), nil, "1:a"},
		{"two of five", safeWorld("3:a", "3:a", "4:b", "4:b", ""), nil, ""},
		{"three of five", safeWorld("3:a", "4:b", "3:a", "4:b", "3:a"), nil, "1:a"},
	})
}

// All places are looked at, the last one too.
func TestAllPlacesAreNoted(t *testing.T) {
	full := impl.RecDisk{Promise: 9, Slots: manySlots(impl.RecMaxSlots, 9)}
	w := impl.RecNewWorld(3)
	w.Recorders[0].Safe, w.Recorders[2].Safe = full, full
	w.Flight = plainFlight(1)
	got := recDone(t, "by most", w, recEvent(impl.RecEvBring, 0))
	if !slices.Equal(got.Fixed, allFixed(impl.RecMaxSlots)) {
		t.Errorf("fixed are %v", got.Fixed)
	}
	wantAgree(t, "by most", got, true)
	w = impl.RecNewWorld(3)
	w.Recorders[1].Disk = full
	w.Recorders[1].Disk.Known = impl.RecMaxSlots
	got = recDone(t, "by one who knows", w, recTickEvent())
	if !slices.Equal(got.Fixed, allFixed(impl.RecMaxSlots)) {
		t.Errorf("fixed are %v", got.Fixed)
	}
	wantAgree(t, "by one who knows", got, true)
}

// What a message makes known is noted behind it.
func TestWhatAMessageMakesKnown(t *testing.T) {
	w := impl.RecNewWorld(2)
	w.Recorders[1].Disk = disk(4, 0, "4:a 4:b 3:c")
	w.Flight = []impl.RecMessage{{Kind: impl.RecBeat, From: 1, To: 2, Ballot: 4, Known: 3}, {Kind: impl.RecChosen, From: 1, To: 2, Ballot: 4, Index: 3, Text: "d"}}
	w = recDone(t, "a beat", w, recEvent(impl.RecEvBring, 0))
	wantFixed(t, "a beat", w, "1:a 2:b")
	w = recDone(t, "a chosen text", w, recEvent(impl.RecEvBring, 0))
	wantFixed(t, "a chosen text", w, "1:a 2:b 3:d")
	wantAgree(t, "both", w, true)
}
