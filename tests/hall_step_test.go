package tests

import (
	"slices"
	"strings"
	"testing"

	"loop.example/wharfhall/impl"
)

// What the desk's recorders know: the first one all of it, the second one the first two, the third one, which is down, the first.
var deskTexts = []string{
	"sea 1 raise a",
	"slip 1 d1 3 web:0 ann make web dock fleet 1,2,,,,",
	"slip 2 d1 3 api:0 ann make api dock fleet 1,3,,,,",
	"sea 1 sink c",
}

// deskWorld is a world at the time 5, in which the texts of deskTexts at 0, 2 and 3 were asked, and the first was heard.
// There are two messages under way.
func deskWorld() impl.HallWorld {
	w := toldWorld(3, deskTexts...)
	leading(&w.Rec.Recorders[0])
	knowing(3, deskTexts[:2]...)(&w.Rec.Recorders[1])
	knowing(3, deskTexts[:1]...)(&w.Rec.Recorders[2])
	w.Rec.Recorders[2].Up = false
	w.Rec.Flight = []impl.RecMessage{{Kind: impl.RecWished, From: 1, To: 2, Text: "time 9"}, {Kind: impl.RecBeat, From: 1, To: 2, Ballot: 3, Known: 4}}
	w.Now = 5
	w.Asked = []impl.HallAsked{
		{Text: deskTexts[0], From: 1, To: 3, Said: impl.GateSaid{Version: 1}},
		{Text: deskTexts[2], From: 2},
		{Text: deskTexts[3], From: 5},
	}
	return w
}

func TestTheDesk(t *testing.T) {
	wantHallWorld(t, "the desk", deskWorld(), true)
	wantRight(t, "the desk", deskWorld(), true)
	wantHallDone(t, "the desk", deskWorld(), false)
}

// crowdedEvent has something in all that its Kind does not use.
func crowdedEvent(t *testing.T, kind, a int) impl.HallEvent {
	t.Helper()
	return impl.HallEvent{Kind: kind, A: a, B: 1, Door: "d1", Ask: askOf(t, "ann end web 0"), Entry: readEntry(t, "time 77")}
}

// The Kinds 1 to 6 are what RecDo does, wherever, and nothing of the hall.
func TestHallStepsOfRecorders(t *testing.T) {
	changed := map[int]int{}
	for what, w := range map[string]impl.HallWorld{"the desk": deskWorld(), "a busy world": busyWorld(), "new": impl.HallNew(yardHouse(), 5)} {
		for kind := 1; kind <= 6; kind++ {
			for _, a := range []int{-1 << 62, -1, 0, 1, 2, 3, 4, 5, 99, 1 << 62} {
				rec := recDoByHand(w.Rec, recEvent(kind, a))
				got := stepTurned(t, what, w, crowdedEvent(t, kind, a), func(w *impl.HallWorld) { w.Rec = rec })
				if !sameRecWorld(got.Rec, w.Rec) {
					changed[kind]++
				}
			}
		}
	}
	for kind := 1; kind <= 6; kind++ {
		if changed[kind] < 2 {
			t.Errorf("the Kind %d changed something %d times only", kind, changed[kind])
		}
	}
	// A tick is one wherever it is: A is not looked at.
	if got := impl.HallStep(deskWorld(), hallEvent(impl.RecEvTick, 99, 0)); sameRecWorld(got.Rec, deskWorld().Rec) {
		t.Error("there was no tick")
	}
	// A message that is brought is the one at A, though there are fewer recorders.
	w := turnedHallWorld(deskWorld(), func(w *impl.HallWorld) { w.Rec.Flight = append(plainFlight(7), w.Rec.Flight...) })
	got := stepTurned(t, "the eighth message", w, hallEvent(impl.RecEvBring, 7, 0), wishingFor(1, "time 9"), func(w *impl.HallWorld) { w.Rec.Flight = slices.Delete(w.Rec.Flight, 7, 8) })
	if len(got.Rec.Recorders[1].Wishes) != 1 {
		t.Error(recWorldTold(got.Rec))
	}
}

// Of another Kind Now alone turns; the wish of the recorders' world is no event of the hall.
func TestHallStepsThatAreNone(t *testing.T) {
	for what, w := range map[string]impl.HallWorld{"the desk": deskWorld(), "a busy world": busyWorld(), "new": impl.HallNew(yardHouse(), 5)} {
		for _, kind := range []int{-1 << 63, -11, -1, 0, 7, 8, 9, 10, 15, 16, 100, 1<<63 - 1} {
			for _, a := range []int{-1, 0, 1, 2, 3} {
				stepTurned(t, what, w, crowdedEvent(t, kind, a))
			}
		}
		for kind := impl.HallAsks; kind <= impl.HallHear; kind++ {
			for _, a := range []int{-1 << 62, -3, -1, len(w.Rec.Recorders), len(w.Rec.Recorders) + 1, 1 << 62} {
				stepTurned(t, what+", nobody there", w, crowdedEvent(t, kind, a))
			}
		}
	}
}

// Now is one more by every event, from any time on.
func TestHallStepsCount(t *testing.T) {
	for _, now := range []int{0, 1, 8, 1000, 1 << 40, 1<<63 - 2} {
		w := impl.HallNew(yardHouse(), 2)
		w.Now = now
		for kind := -1; kind <= 15; kind++ {
			if got := hallStepped(t, "at "+count(now), w, crowdedEvent(t, kind, 0)); got.Now != now+1 {
				t.Errorf("at %d the Kind %d leads to %d", now, kind, got.Now)
			}
		}
	}
}

// A count that is at its end stays there, and what is asked then cannot be heard: that would be no ok world.
func TestHallStepsAtTheEndOfTime(t *testing.T) {
	last := 1<<63 - 1
	w := toldWorld(1, "sea 1 raise a")
	w.Now = last
	leading(&w.Rec.Recorders[0])
	for kind := -1; kind <= 15; kind++ {
		if got := impl.HallStep(w, crowdedEvent(t, kind, 0)); got.Now != last || !impl.HallWorldOk(got) {
			t.Errorf("the Kind %d leads to %s", kind, hallWorldTold(got))
		}
	}
	asked := impl.HallStep(w, asksEvent(t, 0, "sea 1 raise a"))
	heard := impl.HallStep(asked, hallEvent(impl.HallHear, 0, 0))
	if len(asked.Asked) != 1 || asked.Asked[0].From != last || !sameHallWorld(heard, asked) {
		t.Errorf("%s", hallWorldTold(heard))
	}
	asked.Asked[0].From--
	heard = impl.HallStep(asked, hallEvent(impl.HallHear, 0, 0))
	if heard.Asked[0].To != last || heard.Asked[0].Said != (impl.GateSaid{Version: 1}) || !impl.HallWorldOk(heard) {
		t.Errorf("%s", hallWorldTold(heard))
	}
	for _, rounds := range []int{1, 40} {
		if got := impl.HallCalm(w, rounds); got.Now != last || !impl.HallWorldOk(got) {
			t.Errorf("%d rounds lead to %s", rounds, hallWorldTold(got))
		}
	}
}

// Whatever has a form is asked, but acts: it is waited for, and wished for where it was asked.
func TestEntriesAreAsked(t *testing.T) {
	for _, f := range entryForms() {
		e := impl.HallEvent{Kind: impl.HallAsks, Entry: f.entry, B: 700000, Door: "no name", Ask: askOf(t, "ann end web 0")}
		if f.entry.Kind == impl.HallAct {
			stepTurned(t, f.form, deskWorld(), e)
			continue
		}
		for at := range 2 {
			e.A = at
			stepTurned(t, f.form, deskWorld(), e, asking(f.form), wishingFor(at, f.form))
		}
	}
	for _, act := range []string{"act 1 web 2 1 * * *", "act 500001 web 2 0 * * drop"} {
		stepTurned(t, act, deskWorld(), asksEvent(t, 0, act))
	}
}

func TestEntriesThatAreAskedWithoutAForm(t *testing.T) {
	for what, e := range map[string]impl.HallEntry{
		"nothing":          {},
		"no Kind":          {Kind: 0, Number: 1},
		"another Kind":     {Kind: 9, Number: 1},
		"no Number":        {Kind: impl.HallTime},
		"a Number below 0": {Kind: impl.HallTime, Number: -1},
		"no name":          {Kind: impl.HallSea, Number: 1, Sea: raiseOf("A", false)},
		"too long":         {Kind: impl.HallSlip, Number: 1, Slip: impl.GateSlip{Door: "d1", Ask: askOf(t, "ann end web 0"), Wants: slices.Repeat([]impl.GateWant{serviceWant(long(16), 1000000)}, 8)}},
		"not all written":  {Kind: impl.HallTime, Number: 1, Door: "d1"},
	} {
		wantNoForm(t, what, e)
		for at := range 3 {
			stepTurned(t, what, deskWorld(), impl.HallEvent{Kind: impl.HallAsks, A: at, Entry: e})
		}
	}
}

func TestNumbersOfWhatIsAsked(t *testing.T) {
	for _, n := range []int{1, 499999, impl.HallMaxAsks} {
		text := "time " + count(n)
		stepTurned(t, text, deskWorld(), asksEvent(t, 0, text), asking(text), wishingFor(0, text))
	}
	for _, n := range []int{impl.HallMaxAsks + 1, 600000, impl.HallMaxNumber} {
		stepTurned(t, "too great", deskWorld(), asksEvent(t, 0, "time "+count(n)))
	}
}

// What was asked already is wished for once more, answered or not, and is waited for since it was asked first.
func TestTextsThatAreAskedOnceMore(t *testing.T) {
	w := deskWorld()
	// The second recorder does not know the texts at 2 and 3 yet, the first one does; all know the one at 0.
	stepTurned(t, "answered, and known", w, asksEvent(t, 1, deskTexts[0]))
	stepTurned(t, "known, and not answered", w, asksEvent(t, 0, deskTexts[2]))
	stepTurned(t, "not known", w, asksEvent(t, 1, deskTexts[2]), wishingFor(1, deskTexts[2]))
	stepTurned(t, "asked now", w, asksEvent(t, 1, deskTexts[3]), wishingFor(1, deskTexts[3]))
	answered := turnedHallWorld(w, func(w *impl.HallWorld) { w.Asked[1].To, w.Asked[1].Said = 4, impl.GateSaid{Version: 5} })
	stepTurned(t, "answered, and not known", answered, asksEvent(t, 1, deskTexts[2]), wishingFor(1, deskTexts[2]))
	wished := turnedHallWorld(w, wishingFor(1, deskTexts[2]))
	stepTurned(t, "wished for already", wished, asksEvent(t, 1, deskTexts[2]))
	stepTurned(t, "wished for by another one", wished, asksEvent(t, 0, "time 4"), asking("time 4"), wishingFor(0, "time 4"))
	// Known, and not asked yet: there is nothing to wish for, but somebody waits for the answer.
	stepTurned(t, "known, and not asked", w, asksEvent(t, 0, deskTexts[1]), asking(deskTexts[1]))
}

// At a recorder that is down, or has no room, it is waited for, though there is no wish.
func TestTextsThatAreAskedInVain(t *testing.T) {
	w := deskWorld()
	stepTurned(t, "down", w, asksEvent(t, 2, "time 4"), asking("time 4"))
	stepTurned(t, "down, and asked already", w, asksEvent(t, 2, deskTexts[2]))
	for wishes := impl.RecMaxWishes - 1; wishes <= impl.RecMaxWishes; wishes++ {
		full := turnedHallWorld(w, wishingFor(1, names(wishes)...))
		turns := []func(w *impl.HallWorld){asking("time 4")}
		if wishes < impl.RecMaxWishes {
			turns = append(turns, wishingFor(1, "time 4"))
		}
		stepTurned(t, count(wishes)+" wishes", full, asksEvent(t, 1, "time 4"), turns...)
		stepTurned(t, count(wishes)+" wishes elsewhere", full, asksEvent(t, 0, "time 4"), asking("time 4"), wishingFor(0, "time 4"))
	}
}

func TestAsMuchIsAskedAsMayBe(t *testing.T) {
	for n := impl.HallMaxAsked - 2; n <= impl.HallMaxAsked; n++ {
		w := turnedHallWorld(deskWorld(), func(w *impl.HallWorld) { w.Asked = manyAsked(n) })
		turns := []func(w *impl.HallWorld){asking("sea 8 tick"), wishingFor(1, "sea 8 tick")}
		if n == impl.HallMaxAsked {
			turns = nil
		}
		stepTurned(t, count(n)+" asked, and a new text", w, asksEvent(t, 1, "sea 8 tick"), turns...)
		stepTurned(t, count(n)+" asked, and one of them", w, asksEvent(t, 1, "time 1"), wishingFor(1, "time 1"))
		stepTurned(t, count(n)+" asked, and the last of them", w, asksEvent(t, 0, "time "+count(n)), wishingFor(0, "time "+count(n)))
		form := "slip 5 d1 3 web:4 ann end web 0"
		turns = []func(w *impl.HallWorld){asking(form), wishingFor(0, form)}
		if n == impl.HallMaxAsked {
			turns = nil
		}
		stepTurned(t, count(n)+" asked, and one through a door", w, throughEvent(t, 0, 5, "ann end web 0"), turns...)
		// Acts are no matter of this.
		if got := hallStepped(t, "acts", w, hallEvent(impl.HallSteward, 0, impl.StewCounter)); len(got.Rec.Recorders[0].Wishes) != 2 {
			t.Errorf("with %d asked: %s", n, recWorldTold(got.Rec))
		}
	}
}

// A door sees what its recorder knows: another one makes another slip.
func TestAsksThroughDoors(t *testing.T) {
	w := deskWorld()
	for _, c := range []struct {
		at   int
		told string
		form string
	}{
		{0, "ann end web 0", "slip 7 d1 3 web:4 ann end web 0"},
		{1, "ann end web 4", "slip 7 d1 3 web:4 ann end web 4"},
		{0, "ann end api 0", "slip 7 d1 3 api:5 ann end api 0"},
		{0, "ann make log dock fleet 1,1,,,,web", "slip 7 d1 3 log:0,web:4 ann make log dock fleet 1,1,,,,web"},
		{1, "ann make api dock fleet 1,3,,,,", "slip 7 d1 3 api:0 ann make api dock fleet 1,3,,,,"},
		{0, "ann change web 4 2,3,1,2,,", "slip 7 d1 3 web:4 ann change web 4 2,3,1,2,,"},
		{0, "ann give bob 13 service dock w", "slip 7 d1 3 * ann give bob 13 service dock w"},
		{1, "ann take 2", "slip 7 d1 3 * ann take 2"},
	} {
		stepTurned(t, c.told, w, throughEvent(t, c.at, 7, c.told), asking(c.form), wishingFor(c.at, c.form))
		e := throughEvent(t, c.at, 7, c.told)
		e.Entry, e.Door = readEntry(t, "time 3"), "d2"
		form := strings.Replace(c.form, "d1", "d2", 1)
		stepTurned(t, c.told+", another door", w, e, asking(form), wishingFor(c.at, form))
	}
}

func TestAsksThroughDoorsThatAreNone(t *testing.T) {
	w := deskWorld()
	// The same is asked with the view of one that is late, of one that knows, and of one that is down.
	for _, told := range []string{"ann make web dock fleet 1,2,,,,", "ann end web 3", "bob end web 0", "ann letgo web fleet", "ann make new dock audit 1,2,,,,",
		"ann make new dock fleet 1,11,,,,", "ann change log 0 1,2,,,,", "ann make new dock fleet 1,2,,,,zip", "ann letgo web audit", "ann take 9", "bob give ann 1 * * *"} {
		if _, said := impl.HallSlipOf(w.House, impl.HallView(w, 0), 7, "d1", askOf(t, told)); said.Code == 0 {
			t.Errorf("%s is made a slip", told)
		}
		for at := range 2 {
			stepTurned(t, told, w, throughEvent(t, at, 7, told))
		}
	}
	stepTurned(t, "not known there yet", w, throughEvent(t, 1, 7, "ann end api 0"))
	stepTurned(t, "down", w, throughEvent(t, 2, 7, "ann make new dock fleet 1,2,,,,"))
	stepTurned(t, "nothing asked", w, impl.HallEvent{Kind: impl.HallThrough, B: 7, Door: "d1"})
	for _, door := range append(notNames(), "D1", "d 1") {
		e := throughEvent(t, 0, 7, "ann end web 0")
		e.Door = door
		stepTurned(t, "the door "+door, w, e)
	}
	// A Kind that is not asked for: what is no service has no slip.
	e := throughEvent(t, 0, 7, "ann end web 0")
	e.Ask.Kind = "crane"
	stepTurned(t, "another Kind", w, e)
}

func TestNumbersOfAsksThroughDoors(t *testing.T) {
	w := deskWorld()
	for _, n := range []int{1, 2, 499999, impl.HallMaxAsks} {
		form := "slip " + count(n) + " d1 3 web:4 ann end web 0"
		stepTurned(t, count(n), w, throughEvent(t, 0, n, "ann end web 0"), asking(form), wishingFor(0, form))
	}
	for _, n := range []int{-1 << 63, -1, 0, impl.HallMaxAsks + 1, impl.HallMaxNumber, impl.HallMaxNumber + 1, 1<<63 - 1} {
		stepTurned(t, count(n), w, throughEvent(t, 0, n, "ann end web 0"))
	}
}

// The same ask with the same number is the same text, as long as the view is the same.
func TestAsksThroughDoorsOnceMore(t *testing.T) {
	w := deskWorld()
	form := "slip 7 d1 3 web:4 ann end web 0"
	once := stepTurned(t, "once", w, throughEvent(t, 0, 7, "ann end web 0"), asking(form), wishingFor(0, form))
	stepTurned(t, "at the same one", once, throughEvent(t, 0, 7, "ann end web 0"))
	stepTurned(t, "at another one", once, throughEvent(t, 1, 7, "ann end web 0"), wishingFor(1, form))
	other := "slip 8 d1 3 web:4 ann end web 0"
	stepTurned(t, "with another number", once, throughEvent(t, 0, 8, "ann end web 0"), asking(other), wishingFor(0, other))
}
