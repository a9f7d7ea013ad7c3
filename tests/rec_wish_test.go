package tests

import (
	"testing"

	"loop.example/wharfhall/impl"
)

// wantWish asks the same of a RecWished: it is the same wish, if the recorder is Up.
func wantWish(t *testing.T, what string, r impl.Recorder, text string, want impl.Recorder) {
	t.Helper()
	if hand := recWishByHand(r, text); !sameRecorder(hand, want) {
		t.Errorf("%s: by hand %s\nis to bring in %q: %s,\nnot %s", what, recorderTold(r), text, recorderTold(hand), recorderTold(want))
	}
	if got := impl.RecWish(r, text); !sameRecorder(got, want) {
		t.Errorf("%s: %s\nis to bring in %q: %s,\nnot %s", what, recorderTold(r), text, recorderTold(got), recorderTold(want))
	}
	m := impl.RecMessage{Kind: impl.RecWished, From: 1, To: r.Number, Text: text}
	if impl.RecMessageOk(m, r.Of) {
		wantTaken(t, what+", sent", r, m, want)
	}
}

func wantWished(t *testing.T, what string, r impl.Recorder, text string, isNew bool) {
	t.Helper()
	wantRecorder(t, what, r, true)
	want := copyRecorder(r)
	if isNew {
		want.Wishes = append(want.Wishes, text)
	}
	wantWish(t, what, r, text, want)
}

func TestTextsOfWishes(t *testing.T) {
	eachUp(func(what string, make func() impl.Recorder) {
		for n := range impl.RecMaxText + 4 {
			wantWished(t, what+", bytes: "+count(n), make(), long(n), 1 <= n && n <= impl.RecMaxText)
		}
		for text, isNew := range map[string]bool{"d": true, "\xff": true, "\x00\x00": true, "c ": true, "C": true, " ": true, "c": false, "a": false, "\x00": false} {
			wantWished(t, what, make(), text, isNew)
		}
	})
}

// A text is brought in once: not while it is a wish, nor when it is known; what is only taken may still be lost.
func TestWishesForWhatIsThere(t *testing.T) {
	eachUp(func(what string, make func() impl.Recorder) {
		r := turnedRecorder(make(), writes("3:p 5:q 8:r 7:s 0: 8:u"), wishesFor("x", "r"))
		for known := range 4 {
			r.Disk.Known = known
			for place, text := range []string{1: "p", 2: "q", 4: "s", 6: "u"} {
				if text != "" {
					wantWished(t, what+", "+text+", known "+count(known), r, text, place > known)
				}
			}
			wantWished(t, what+", a wish that is taken", r, "r", false)
			wantWished(t, what+", a wish", r, "x", false)
			wantWished(t, what+", nothing", r, "", false)
			wantWished(t, what+", another one", r, "y", true)
		}
		// What is safe is not looked at: the disk as it is written tells what is known.
		r = turnedRecorder(make(), knows(0), writes("8:q"), func(r *impl.Recorder) { r.Safe = disk(9, 1, "9:safe") })
		wantWished(t, what+", only safe", r, "safe", true)
	})
}

func TestHowManyWishesThereAre(t *testing.T) {
	eachUp(func(what string, make func() impl.Recorder) {
		for n := range impl.RecMaxWishes + 1 {
			r := turnedRecorder(make(), wishesFor(names(n)...))
			wantWished(t, what+", wishes: "+count(n), r, "one-more", n < impl.RecMaxWishes)
			if n > 0 {
				wantWished(t, what+", the first again", r, names(n)[0], false)
				wantWished(t, what+", the last again", r, names(n)[n-1], false)
			}
		}
		full := turnedRecorder(make(), heldTimes(impl.RecMaxHeld), wishesFor(names(impl.RecMaxWishes-1)...))
		wantWished(t, what+", nothing more can be held", full, "one-more", true)
	})
}

func TestWishesOfOneThatIsNotUp(t *testing.T) {
	for _, r := range []impl.Recorder{fallenRecorder(), {Number: 1, Of: 1}, {Number: 5, Of: 5}} {
		for _, text := range []string{"", "z", "a", long(impl.RecMaxText), long(impl.RecMaxText + 1)} {
			wantWish(t, "not Up", r, text, r)
		}
	}
	for _, text := range []string{"", "z"} {
		wantWish(t, "nothing", impl.Recorder{}, text, impl.Recorder{})
		wantWish(t, "Up, and nobody", impl.Recorder{Up: true}, text, impl.Recorder{})
	}
}
