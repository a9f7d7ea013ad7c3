package tests

import (
	"fmt"
	"slices"
	"testing"

	"loop.example/wharfhall/impl"
)

func copyRecWorld(w impl.RecWorld) impl.RecWorld {
	out := impl.RecWorld{Flight: copyMessages(w.Flight), Fixed: slices.Clone(w.Fixed)}
	for _, r := range w.Recorders {
		out.Recorders = append(out.Recorders, copyRecorder(r))
	}
	return out
}

func sameRecWorld(a, b impl.RecWorld) bool {
	return slices.EqualFunc(a.Recorders, b.Recorders, sameRecorder) && sameSent(a.Flight, b.Flight) && slices.Equal(a.Fixed, b.Fixed)
}

// recWorldTold writes a world as far as somebody would read it.
func recWorldTold(w impl.RecWorld) string {
	told := fmt.Sprintf("%d recorders", len(w.Recorders))
	for _, r := range w.Recorders {
		told += "\n\t" + recorderTold(r)
	}
	return told + fmt.Sprintf("\n\tin flight %s\n\tfixed %.900q", sentTold(w.Flight), fmt.Sprint(w.Fixed))
}

// recEvent is an event without a text.
func recEvent(kind, a int) impl.RecEvent {
	return impl.RecEvent{Kind: kind, A: a}
}

func recWishEvent(a int, text string) impl.RecEvent {
	return impl.RecEvent{Kind: impl.RecEvWish, A: a, Text: text}
}

func recEventTold(e impl.RecEvent) string {
	return fmt.Sprintf("the Kind %d at %d with %.200q", e.Kind, e.A, e.Text)
}

// recTickEvent is the one event that happens to all.
func recTickEvent() impl.RecEvent {
	return recEvent(impl.RecEvTick, 0)
}

// allRecEvents are events of each Kind, those that there are not among them, at places that are there and that are not.
func allRecEvents() []impl.RecEvent {
	var out []impl.RecEvent
	for kind := -1; kind <= impl.RecEvWish+2; kind++ {
		for _, a := range []int{-1 << 62, -1, 0, 1, 2, 4, 5, 599, 600, 1 << 62} {
			out = append(out, impl.RecEvent{Kind: kind, A: a, Text: "asked"})
		}
	}
	return out
}

// wantRecDo asks the same of the document's words by hand, so that neither is trusted alone.
func wantRecDo(t *testing.T, what string, w impl.RecWorld, e impl.RecEvent, want impl.RecWorld) impl.RecWorld {
	t.Helper()
	if hand := recDoByHand(w, e); !sameRecWorld(hand, want) {
		t.Errorf("%s: by hand %s of %s\nis %s,\nnot %s", what, recEventTold(e), recWorldTold(w), recWorldTold(hand), recWorldTold(want))
	}
	got := impl.RecDo(w, e)
	if !sameRecWorld(got, want) {
		t.Errorf("%s: %s of %s\nis %s,\nnot %s", what, recEventTold(e), recWorldTold(w), recWorldTold(got), recWorldTold(want))
	}
	return got
}

// recDone asks for the world that the document's words lead to.
func recDone(t *testing.T, what string, w impl.RecWorld, e impl.RecEvent) impl.RecWorld {
	t.Helper()
	return wantRecDo(t, what, w, e, recDoByHand(w, e))
}

// wantRecCalm asks for the world that the document's words lead to.
func wantRecCalm(t *testing.T, what string, w impl.RecWorld, rounds int) impl.RecWorld {
	t.Helper()
	got, want := impl.RecCalm(w, rounds), recCalmByHand(w, rounds)
	if !sameRecWorld(got, want) {
		t.Errorf("%s: %d rounds of %s\nare %s,\nnot %s", what, rounds, recWorldTold(w), recWorldTold(got), recWorldTold(want))
	}
	return got
}

// wantRecWorld asks also that in a world that is not ok nothing happens and nothing is told.
func wantRecWorld(t *testing.T, what string, w impl.RecWorld, want bool) {
	t.Helper()
	if got := impl.RecWorldOk(w); got != want || recWorldByHand(w) != want {
		t.Errorf("%s: RecWorldOk of %s\n= %v", what, recWorldTold(w), got)
	}
	if want {
		return
	}
	for _, e := range allRecEvents() {
		wantRecDo(t, what, w, e, impl.RecWorld{})
	}
	for _, rounds := range []int{-1, 0, 1, 3, impl.RecMaxCalm, impl.RecMaxCalm + 1} {
		if got := impl.RecCalm(w, rounds); !sameRecWorld(got, impl.RecWorld{}) {
			t.Errorf("%s: %d rounds of %s\nare %s", what, rounds, recWorldTold(w), recWorldTold(got))
		}
	}
	for _, index := range []int{-1, 0, 1, 2, impl.RecMaxSlots, impl.RecMaxSlots + 1} {
		wantMajor(t, what, w, index, "", false)
	}
	wantAgree(t, what, w, false)
}

func wantMajor(t *testing.T, what string, w impl.RecWorld, index int, text string, is bool) {
	t.Helper()
	if hand, told := majorByHand(w, index); hand != text || told != is {
		t.Errorf("%s: by hand most have %.200q, %v at %d of %s,\nnot %.200q, %v", what, hand, told, index, recWorldTold(w), text, is)
	}
	if got, told := impl.RecMajor(w, index); got != text || told != is {
		t.Errorf("%s: RecMajor of %d in %s\n= %.200q, %v,\nnot %.200q, %v", what, index, recWorldTold(w), got, told, text, is)
	}
}

func wantAgree(t *testing.T, what string, w impl.RecWorld, want bool) {
	t.Helper()
	if hand := agreeByHand(w); hand != want {
		t.Errorf("%s: by hand they agree: %v, of %s", what, hand, recWorldTold(w))
	}
	if got := impl.RecAgree(w); got != want {
		t.Errorf("%s: RecAgree of %s\n= %v", what, recWorldTold(w), got)
	}
}

// wantFixed asks for what is fixed, a word each: the place, and behind a colon the text.
func wantFixed(t *testing.T, what string, w impl.RecWorld, row string) {
	t.Helper()
	if want := fixes(row); !slices.Equal(w.Fixed, want) {
		t.Errorf("%s: fixed are %v, not %v", what, w.Fixed, want)
	}
}

func fixes(row string) []impl.RecFix {
	var out []impl.RecFix
	for _, s := range slotRow(row) {
		out = append(out, impl.RecFix{Index: s.Ballot, Text: s.Text})
	}
	return out
}

// safeWorld has one recorder a row, each Up with the row safe and as its disk, and nothing known.
func safeWorld(rows ...string) impl.RecWorld {
	w := impl.RecNewWorld(len(rows))
	for i, row := range rows {
		w.Recorders[i].Safe, w.Recorders[i].Disk = disk(20, 0, row), disk(20, 0, row)
	}
	return w
}

// turnedRecWorld leaves the one that it is given as it is.
func turnedRecWorld(w impl.RecWorld, turns ...func(w *impl.RecWorld)) impl.RecWorld {
	w = copyRecWorld(w)
	for _, turn := range turns {
		turn(&w)
	}
	return w
}

// recorderAt turns one recorder of a world.
func recorderAt(at int, turn recTurn) func(w *impl.RecWorld) {
	return func(w *impl.RecWorld) { turn(&w.Recorders[at]) }
}

// plainFlight are n messages to the first recorder that change nothing there: nobody takes a wish for an empty text.
func plainFlight(n int) []impl.RecMessage {
	return slices.Repeat([]impl.RecMessage{{Kind: impl.RecWished, From: 1, To: 1}}, n)
}
