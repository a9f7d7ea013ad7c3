package tests

import (
	"slices"
	"testing"

	"loop.example/wharfhall/impl"
)

// calmWished asks that a round is one of the recorders, that Now is one more, and that beside this there are just these wishes at a recorder.
func calmWished(t *testing.T, what string, w impl.HallWorld, at int, wishes ...string) impl.HallWorld {
	t.Helper()
	wantHallWorld(t, what, w, true)
	want := copyHallWorld(w)
	want.Rec = recCalmByHand(want.Rec, 1)
	want.Now++
	wishingFor(at, wishes...)(&want)
	got := hallCalmed(t, what, w, 1)
	if !sameHallWorld(got, want) {
		t.Errorf("%s: a round of %s\nis %s,\nnot %s", what, hallWorldTold(w), hallWorldTold(got), hallWorldTold(want))
	}
	return got
}

// chairWorld is a world with one recorder, which leads and knows texts.
func chairWorld(texts ...string) impl.HallWorld {
	w := toldWorld(1, texts...)
	leading(&w.Rec.Recorders[0])
	return w
}

func TestHowManyHallRoundsGoBy(t *testing.T) {
	t.Parallel()
	for what, w := range map[string]impl.HallWorld{"the desk": deskWorld(), "a busy world": busyWorld(), "one": chairWorld(deskTexts...), "rivals": rivals()} {
		for _, rounds := range []int{-1 << 62, -1000, -1, 0} {
			if got := hallCalmed(t, what, w, rounds); !sameHallWorld(got, w) {
				t.Errorf("%s: %d rounds lead to %s", what, rounds, hallWorldTold(got))
			}
		}
		for _, rounds := range []int{1, 2, 3, 8, 30} {
			if got := hallCalmed(t, what, w, rounds); got.Now != w.Now+rounds || !slices.Equal(got.Asked, w.Asked) {
				t.Errorf("%s: %d rounds lead to %s", what, rounds, hallWorldTold(got))
			}
		}
	}
	// Each round is to be seen in Now, and in how long the one that leads has heard of nobody.
	w := chairWorld("sea 1 raise a")
	for _, rounds := range []int{impl.HallMaxCalm - 1, impl.HallMaxCalm} {
		if got := hallCalmed(t, "many", w, rounds); got.Now != rounds || got.Rec.Recorders[0].Heard != rounds {
			t.Errorf("%d rounds lead to %s", rounds, hallWorldTold(got))
		}
	}
	most := impl.HallCalm(w, impl.HallMaxCalm)
	for _, rounds := range []int{impl.HallMaxCalm + 1, 2 * impl.HallMaxCalm, 1<<63 - 1} {
		if got := hallCalmed(t, "too many", w, rounds); !sameHallWorld(got, most) {
			t.Errorf("%d rounds lead to %s", rounds, hallWorldTold(got))
		}
	}
}

// From row to row: what comes of itself comes one by one, and in the end there is nothing more.
func TestWhatComesOfItself(t *testing.T) {
	w := chairWorld("sea 1 raise a", "slip 1 d1 3 * ann make web dock fleet 1,2,,,,")
	act, one, two := "act 2 web 2 2 * * *", "sea 500001 tick", "sea 500002 tick"
	// A text is wished for in one round, taken in the next and known in the third; then it is no wish any more.
	for rounds, texts := range [][]string{nil, {act}, {act}, {act}, {act, one}, {act, one}, {act, one}, {act, one, two}, {act, one, two}} {
		r := hallCalmed(t, "from row to row", w, rounds).Rec.Recorders[0]
		known := slices.Concat(impl.RecBook(r)[2:], r.Wishes)
		if !slices.Equal(slices.Compact(known), texts) {
			t.Errorf("%d rounds: %s", rounds, recorderTold(r))
		}
	}
	end := hallCalmed(t, "to the end", w, 12)
	wantHallDone(t, "to the end", end, true)
	if got := hallCalmed(t, "behind the end", end, 40); !slices.Equal(impl.HallFixed(got), impl.HallFixed(end)) || len(impl.HallFixed(end)) != 5 {
		t.Errorf("%q, then %q", impl.HallFixed(end), impl.HallFixed(got))
	}
}

// What rivals know: the first one all of it, the second one less.
var rivalTexts = []string{"sea 1 raise a", "slip 1 d1 3 * ann make web dock fleet 1,2,,,,", "act 2 web 2 2 * * *"}

const (
	firstNext  = "sea 500001 tick"
	secondNext = "act 2 web 2 2 * * *"
)

// rivals are three recorders, of whom the first two lead under ballots of their own; they do not hear of each other, as
// there is so much under way that no more messages fit.
func rivals() impl.HallWorld {
	w := impl.HallNew(yardHouse(), 3)
	knowing(4, rivalTexts...)(&w.Rec.Recorders[0])
	knowing(5, rivalTexts[:2]...)(&w.Rec.Recorders[1])
	leading(&w.Rec.Recorders[0])
	leading(&w.Rec.Recorders[1])
	w.Rec.Flight = plainFlight(impl.RecMaxFlight)
	return w
}

// takes gives a recorder a slot of its own ballot that is not known, safe or not.
func takes(text string) recTurn {
	return func(r *impl.Recorder) {
		r.Disk.Slots = append(r.Disk.Slots, impl.RecSlot{Ballot: r.Disk.Promise, Text: text})
	}
}

func quiet(r *impl.Recorder) {
	r.Lead, r.Trying, r.Ballot, r.Yes, r.Best, r.Acks = false, false, 0, nil, nil, nil
}

func trying(r *impl.Recorder) {
	quiet(r)
	r.Trying, r.Ballot = true, r.Disk.Promise
}

func down(r *impl.Recorder) {
	quiet(r)
	r.Up, r.Held, r.Wishes, r.Heard = false, nil, nil, 0
}

func wishes(texts ...string) recTurn {
	return func(r *impl.Recorder) { r.Wishes = append(r.Wishes, texts...) }
}

// Who is asked is the first that is Up, leads, has no wishes and knows all of its slots.
func TestWhoIsAskedForWhatIsNext(t *testing.T) {
	w := rivals()
	calmWished(t, "the first one", w, 0, firstNext)
	for what, turn := range map[string]recTurn{
		"has a wish":             wishes("time 4"),
		"has a wish that is odd": wishes("no entry"),
		"does not know a slot":   takes("time 4"),
		"does neither":           func(r *impl.Recorder) { wishes("time 4")(r); takes("time 5")(r) },
		"is quiet":               quiet,
		"tries":                  trying,
		"is down":                down,
		"wishes for what it has taken": func(r *impl.Recorder) {
			takes("time 4")(r)
			wishes("time 4")(r)
		},
	} {
		first := turnedHallWorld(w, hallRecorderAt(0, turn))
		calmWished(t, "the first one "+what, first, 1, secondNext)
		calmWished(t, "both: it "+what, turnedHallWorld(first, hallRecorderAt(1, turn)), 0)
		calmWished(t, "the second one "+what, turnedHallWorld(w, hallRecorderAt(1, turn)), 0, firstNext)
	}
	third := turnedHallWorld(w, hallRecorderAt(0, quiet), hallRecorderAt(1, wishes("time 4")), hallRecorderAt(2, knowing(6, rivalTexts[:1]...)), hallRecorderAt(2, leading))
	calmWished(t, "the third one, which has nothing", third, 2)
	calmWished(t, "the third one", turnedHallWorld(third, hallRecorderAt(2, knowing(6, rivalTexts[:2]...))), 2, secondNext)
}

// If the first of them has nothing that is next, nobody else is asked.
func TestNobodyElseIsAsked(t *testing.T) {
	for what, texts := range map[string][]string{
		"nothing at all": nil,
		"a berth":        {"sea 1 raise a"},
		"odd texts":      {"", "no entry"},
		"all is done":    append(slices.Clone(rivalTexts), "sea 1 tick", "sea 2 tick"),
		"a last Number":  append(slices.Clone(rivalTexts), "sea 1000000 tick"),
	} {
		w := turnedHallWorld(rivals(), hallRecorderAt(0, knowing(4, texts...)), hallRecorderAt(0, leading))
		calmWished(t, what, w, 0)
		calmWished(t, what+", of a quiet one", turnedHallWorld(w, hallRecorderAt(0, quiet)), 1, secondNext)
	}
	for what, turn := range map[string]recTurn{"all are quiet": quiet, "all try": trying, "all are down": down} {
		calmWished(t, what, turnedHallWorld(rivals(), hallRecorderAt(0, turn), hallRecorderAt(1, turn)), 0)
	}
	calmWished(t, "new", impl.HallNew(yardHouse(), 3), 0)
}

// It is asked as it is behind the round: what it comes to know by the round counts, and so does whom it comes to follow.
func TestItIsAskedBehindTheRound(t *testing.T) {
	// What was taken by the only one is known by its tick.
	w := turnedHallWorld(chairWorld(rivalTexts[:2]...), hallRecorderAt(0, takes(rivalTexts[2])))
	calmWished(t, "a slot that the tick makes known", w, 0, firstNext)
	// A wish that is known by the tick's beginning is gone by it; one that is brought in by the tick is there until the next.
	calmWished(t, "a wish that is known", turnedHallWorld(chairWorld(rivalTexts...), hallRecorderAt(0, wishes(rivalTexts[1]))), 0, firstNext)
	calmWished(t, "a wish that is new", turnedHallWorld(chairWorld(rivalTexts...), hallRecorderAt(0, wishes("time 4"))), 0)
	// One that hears of a greater ballot leads no more.
	follower := turnedHallWorld(rivals(), func(w *impl.HallWorld) {
		w.Rec.Flight = append(plainFlight(impl.RecMaxFlight-1), impl.RecMessage{Kind: impl.RecBeat, From: 3, To: 1, Ballot: 6})
	})
	calmWished(t, "the first one follows another one", follower, 1, secondNext)
	// One that is handed a wish by a message has it.
	handed := turnedHallWorld(rivals(), func(w *impl.HallWorld) {
		w.Rec.Flight = append(plainFlight(impl.RecMaxFlight-1), impl.RecMessage{Kind: impl.RecWished, From: 3, To: 1, Text: "time 4"})
	})
	calmWished(t, "the first one is handed a wish", handed, 1, secondNext)
	// One that comes to lead by the round is asked in it.
	elected := turnedHallWorld(rivals(), hallRecorderAt(0, trying), func(w *impl.HallWorld) {
		w.Rec.Recorders[0].Yes = []int{1}
		w.Rec.Flight = append(plainFlight(impl.RecMaxFlight-1), impl.RecMessage{Kind: impl.RecPromised, From: 2, To: 1, Ballot: 4})
	})
	calmWished(t, "the first one comes to lead", elected, 0, firstNext)
}

// The number is one more than the greatest of those that may be asked and of all in the book that are no acts'.
func TestNumbersOfWhatComesOfItself(t *testing.T) {
	base := rivalTexts
	for _, c := range []struct {
		what  string
		texts []string
		next  string
	}{
		{"none ahead", nil, "sea 500001 tick"},
		{"a small one", []string{"time 7"}, "sea 500001 tick"},
		{"one below what may be asked", []string{"time 499999"}, "sea 500001 tick"},
		{"the greatest that may be asked", []string{"time 500000"}, "sea 500001 tick"},
		{"one above it", []string{"time 500001"}, "sea 500002 tick"},
		{"several above it", []string{"time 500001", "time 500009", "bound 500004 dock tons 3"}, "sea 500010 tick"},
		{"a slip's", []string{"slip 600000 d1 3 * ann end zip 0"}, "sea 600001 tick"},
		{"a draw's, refused", []string{"draw 700000 d1 dock copies 3"}, "sea 700001 tick"},
		{"one that comes again", []string{"time 500003", "time 500003"}, "sea 500004 tick"},
		{"the last but one", []string{"time 999999"}, "sea 1000000 tick"},
		{"the last", []string{"time 1000000"}, ""},
		{"an act's", []string{"act 600000 web 1 1 * * *"}, "sea 500001 tick"},
		{"the last act's", []string{"act 1000000 web 1 1 * * *", "act 999999 web 1 1 * * *"}, "sea 500001 tick"},
		{"an act's above another one", []string{"act 600000 web 1 1 * * *", "time 500005", "act 600001 web 1 1 * * *"}, "sea 500006 tick"},
		{"ones that are not read", []string{"time 0700000", "time 1000001", "no 700000", "", "time 700000 "}, "sea 500001 tick"},
	} {
		var wished []string
		if c.next != "" {
			wished = append(wished, c.next)
		}
		calmWished(t, c.what, chairWorld(slices.Concat(base, c.texts)...), 0, wished...)
		calmWished(t, c.what+", ahead", chairWorld(slices.Concat(c.texts, base)...), 0, wished...)
		// What is not known, though it be fixed, or taken, or under way, does not count.
		other := turnedHallWorld(rivals(), func(w *impl.HallWorld) {
			w.Rec.Fixed = []impl.RecFix{{Index: 9, Text: "time 800000"}}
			knowing(6, "time 900000")(&w.Rec.Recorders[2])
			knowing(4, slices.Concat(base, c.texts)...)(&w.Rec.Recorders[0])
		})
		calmWished(t, c.what+", others elsewhere", other, 0, wished...)
	}
}

// Acts have the Number of the stewards' book, whatever stands ahead; a sweep has the number, as a tick does.
func TestKindsOfWhatComesOfItself(t *testing.T) {
	calmWished(t, "an act", chairWorld("time 700000", "sea 1 raise a", rivalTexts[1]), 0, "act 2 web 2 2 * * *")
	ended := []string{rivalTexts[1], "slip 2 d1 3 * ann end web 0"}
	calmWished(t, "a drop", chairWorld(append(ended, "time 700000")...), 0, "act 2 web 2 0 * * drop")
	dropped := append(ended, "act 2 web 2 0 * * drop")
	calmWished(t, "a sweep", chairWorld(dropped...), 0, "sweep 500001")
	calmWished(t, "a sweep with a greater number", chairWorld(append(dropped, "sweep 500001", "slip 3 d1 3 * ann make web dock fleet 1,2,,,,", "slip 4 d1 3 * ann end web 0", "act 5 web 5 0 * * drop")...), 0, "sweep 500002")
	calmWished(t, "a sweep without a number", chairWorld(append(dropped, "time 1000000")...), 0)
	calmWished(t, "an act without a number", chairWorld(append(ended, "time 1000000")...), 0, "act 2 web 2 0 * * drop")
	calmWished(t, "nothing", chairWorld("sea 1 raise a", "time 1"), 0)
	for n := range crewTexts() {
		hallCalmed(t, "a beginning", chairWorld(crewTexts()[:n]...), 1)
	}
}

// A row that has no room for one more text stays as it is: the wish is there, and nobody is asked again.
func TestNothingComesIntoAFullRow(t *testing.T) {
	texts := slices.Clone(rivalTexts)
	for len(texts) < impl.RecMaxSlots-1 {
		texts = append(texts, "time "+count(len(texts)))
	}
	w := chairWorld(texts...)
	w = calmWished(t, "room for one", w, 0, firstNext)
	w = hallCalmed(t, "the last one", w, 3)
	if r := w.Rec.Recorders[0]; len(impl.RecBook(r)) != impl.RecMaxSlots || !slices.Equal(r.Wishes, []string{"sea 500002 tick"}) {
		t.Error(recorderTold(r))
	}
	later := hallCalmed(t, "full", w, 20)
	if !slices.Equal(impl.HallFixed(later), impl.HallFixed(w)) || !slices.Equal(later.Rec.Recorders[0].Wishes, w.Rec.Recorders[0].Wishes) {
		t.Error(recWorldTold(later.Rec))
	}
	wantHallDone(t, "full", later, false)
}
