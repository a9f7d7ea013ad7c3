package tests

import (
	"strings"
	"testing"

	"loop.example/wharfhall/impl"
)

// A steward asks for what it sees by its recorder, act by act, and nobody waits for an answer.
func TestStewardsOfTheHall(t *testing.T) {
	w := deskWorld()
	api, web := "act 3 api 3 3 * * *", "act 3 web 2 2 * * *"
	stepTurned(t, "at one that knows both", w, hallEvent(impl.HallSteward, 0, impl.StewCounter), wishingFor(0, api, web))
	stepTurned(t, "at one that knows web", w, hallEvent(impl.HallSteward, 1, impl.StewCounter), wishingFor(1, "act 2 web 2 2 * * *"))
	stepTurned(t, "at one that is down", w, hallEvent(impl.HallSteward, 2, impl.StewCounter))
	e := hallEvent(impl.HallSteward, 0, impl.StewCounter)
	e.Door, e.Ask, e.Entry = "d1", askOf(t, "ann end web 0"), readEntry(t, "time 8")
	stepTurned(t, "with what it does not use", w, e, wishingFor(0, api, web))
	for _, steward := range []int{-1 << 62, -1, 0, 2, 3, 4, 5, 6, 7, 8, 1 << 62} {
		stepTurned(t, "the steward "+count(steward), w, hallEvent(impl.HallSteward, 0, steward))
	}
	once := impl.HallStep(w, hallEvent(impl.HallSteward, 0, impl.StewCounter))
	stepTurned(t, "once more", once, hallEvent(impl.HallSteward, 0, impl.StewCounter))
	// Both were brought in, and the one who asks again does not know of it yet.
	known := turnedHallWorld(w, hallRecorderAt(0, knowing(3, append(deskTexts, api)...)), hallRecorderAt(0, leading))
	stepTurned(t, "what is known is not wished for", known, hallEvent(impl.HallSteward, 0, impl.StewCounter), wishingFor(0, "act 4 web 2 2 * * *"))
}

// What a recorder has no room for is not wished for, act by act.
func TestStewardsWithoutRoom(t *testing.T) {
	api, web := "act 3 api 3 3 * * *", "act 3 web 2 2 * * *"
	for wishes, acts := range map[int][]string{17: {api, web}, 18: {api, web}, 19: {api}, 20: nil} {
		w := turnedHallWorld(deskWorld(), wishingFor(0, names(wishes)...))
		stepTurned(t, count(wishes)+" wishes", w, hallEvent(impl.HallSteward, 0, impl.StewCounter), wishingFor(0, acts...))
	}
	// The first one is there already, so that the second one finds the last room.
	w := turnedHallWorld(deskWorld(), wishingFor(0, api), wishingFor(0, names(18)...))
	stepTurned(t, "the first one is wished for already", w, hallEvent(impl.HallSteward, 0, impl.StewCounter), wishingFor(0, web))
}

// crewTexts lead to books in which each steward has something to ask for: web is to have another image, a copy of api has
// failed, zip has more load, old is to go, and what stands on the berth b is to be drained.
func crewTexts() []string {
	return []string{
		"sea 1 raise a", "sea 1 raise b",
		"slip 1 d1 3 * ann make api dock fleet 1,2,,,,",
		"slip 1 d1 3 * ann make log dock fleet 1,2,,,,",
		"slip 1 d1 3 * ann make old dock fleet 1,1,,,,",
		"slip 1 d1 3 * ann make web dock fleet 1,2,,,,",
		"slip 1 d1 3 * ann make zip dock fleet 1,3,,,10,",
		"act 1 api 3 2 * * *", "act 1 log 4 2 * * *", "act 1 old 5 1 * * *", "act 1 web 6 2 * * *",
		"sea 1 tick", "sea 2 tick",
		"slip 2 d1 3 * ann change web 0 2,2,,,,",
		"sea 3 fails api 1", "sea 3 load zip 25",
		"slip 2 d1 3 * ann end old 0",
		"sea 3 drain b",
	}
}

func TestEachStewardOfTheHall(t *testing.T) {
	w := toldWorld(2, crewTexts()...)
	for steward, acts := range map[int][]string{
		impl.StewCounter: nil,
		impl.StewWaver:   {"act 18 web 14 1 * * *"},
		impl.StewMender:  {"act 18 api 8 0 * 1:15 *"},
		impl.StewScaler:  {"act 18 zip 16 0 3:0 * *"},
		impl.StewSweeper: {"act 18 old 17 0 * 1:13 *"},
		impl.StewDrainer: {"act 18 api 8 1 * * *", "act 18 log 9 1 * * *"},
	} {
		for at := range 2 {
			stepTurned(t, "the steward "+count(steward), w, hallEvent(impl.HallSteward, at, steward), wishingFor(at, acts...))
		}
	}
	for n := range crewTexts() {
		part := toldWorld(1, crewTexts()[:n]...)
		for steward := range 8 {
			hallStepped(t, "a part", part, hallEvent(impl.HallSteward, 0, steward))
		}
	}
}

// An act that is too long to be written is asked for with as many of its ends as fit.
func TestWishesForActsThatAreTooLong(t *testing.T) {
	var texts []string
	for i := range 98 {
		texts = append(texts, "sea "+count(1+i)+" raise a")
	}
	name := long(impl.GateMaxName)
	texts = append(texts, "slip 1 d1 3 * ann make "+name+" dock fleet 1,10,,10,,", "act 1 "+name+" 99 20 * * *", "slip 2 d1 3 * ann end "+name+" 0")
	w := toldWorld(1, texts...)
	got := hallStepped(t, "too long", w, hallEvent(impl.HallSteward, 0, impl.StewSweeper))
	wishes := got.Rec.Recorders[0].Wishes
	if len(wishes) != 1 || len(wishes[0]) > impl.RecMaxText || len(wishes[0]) < impl.RecMaxText-7 || strings.Count(wishes[0], ":") >= 20 {
		t.Errorf("%q", wishes)
	}
}

// Who hears asks a recorder for what was said to a text where it stands in that one's book.
func TestAnswersAreHeard(t *testing.T) {
	w := deskWorld()
	stepTurned(t, "done", w, hallEvent(impl.HallHear, 0, 1), hearing(1, impl.GateSaid{Version: 5}))
	stepTurned(t, "refused", w, hallEvent(impl.HallHear, 0, 2), hearing(2, undone(3)))
	for at := range 3 {
		stepTurned(t, "answered already", w, hallEvent(impl.HallHear, at, 0))
	}
	stepTurned(t, "not known there yet", w, hallEvent(impl.HallHear, 1, 1))
	stepTurned(t, "at one that is down", w, hallEvent(impl.HallHear, 2, 1))
	for _, b := range []int{-1 << 62, -1, 3, 4, impl.HallMaxAsked, 1 << 62} {
		stepTurned(t, "there is none at "+count(b), w, hallEvent(impl.HallHear, 0, b))
	}
	e := hallEvent(impl.HallHear, 0, 1)
	e.Door, e.Ask, e.Entry = "d1", askOf(t, "ann end web 0"), readEntry(t, "time 8")
	stepTurned(t, "with what it does not use", w, e, hearing(1, impl.GateSaid{Version: 5}))
	// One that is down and knows it tells nothing, neither does one that has only taken it.
	down := turnedHallWorld(w, hallRecorderAt(2, knowing(3, deskTexts...)))
	stepTurned(t, "at one that is down and knows it", down, hallEvent(impl.HallHear, 2, 1))
	taken := turnedHallWorld(w, hallRecorderAt(1, knowing(3, deskTexts...)), hallRecorderAt(1, func(r *impl.Recorder) { r.Disk.Known = 2 }))
	stepTurned(t, "taken, and not known", taken, hallEvent(impl.HallHear, 1, 1))
	more := turnedHallWorld(taken, hallRecorderAt(1, func(r *impl.Recorder) { r.Disk.Known = 3 }))
	stepTurned(t, "known", more, hallEvent(impl.HallHear, 1, 1), hearing(1, impl.GateSaid{Version: 5}))
	stepTurned(t, "the next one is not known", more, hallEvent(impl.HallHear, 1, 2))
}

// Each part of an answer is heard, of everything that was ever said on a day.
func TestEveryAnswerIsHeard(t *testing.T) {
	heard := map[string]int{}
	for i, c := range yardDay() {
		w := toldWorld(2, dayTexts()...)
		knowing(2, dayTexts()[:i]...)(&w.Rec.Recorders[1])
		w.Now, w.Asked = 40, []impl.HallAsked{{Text: "time 900", From: 3}, {Text: c.text, From: 40}}
		got := stepTurned(t, c.text, w, hallEvent(impl.HallHear, 0, 1), hearing(1, c.said))
		stepTurned(t, c.text+", answered already", got, hallEvent(impl.HallHear, 0, 1))
		stepTurned(t, c.text+", not known yet", w, hallEvent(impl.HallHear, 1, 1))
		stepTurned(t, "what does not stand there", w, hallEvent(impl.HallHear, 0, 0))
		heard["code "+count(min(c.said.Code, 1))]++
		heard["place "+count(min(c.said.Place, 1))]++
		heard["version "+count(min(c.said.Version, 1))]++
	}
	wantSeen(t, heard, 4, "code 0", "code 1", "place 0", "place 1", "version 0", "version 1")
}

// What was said is what was said where the text stands first.
func TestAnswersOfTextsThatComeAgain(t *testing.T) {
	w := toldWorld(1, "sea 1 sink a", "sea 1 raise a", "", "sea 1 sink a", "sea 1 raise a")
	w.Now, w.Asked = 3, []impl.HallAsked{{Text: "sea 1 sink a"}, {Text: "sea 1 raise a", From: 3}}
	w = stepTurned(t, "refused where it stands first", w, hallEvent(impl.HallHear, 0, 0), hearing(0, undone(3)))
	w = stepTurned(t, "done where it stands first", w, hallEvent(impl.HallHear, 0, 1), hearing(1, impl.GateSaid{Version: 1}))
	wantRight(t, "both", w, true)
}

// A day in a hall: asked through a door, brought in, heard.
func TestFromAskingToHearing(t *testing.T) {
	w := impl.HallNew(yardHouse(), 3)
	w = hallStepped(t, "a berth", w, asksEvent(t, 1, "sea 1 raise a"))
	w = hallStepped(t, "a service", w, throughEvent(t, 2, 7, "ann make web dock fleet 1,2,,,,"))
	w = hallStepped(t, "too early", w, hallEvent(impl.HallHear, 2, 1))
	if w.Asked[1].To != 0 {
		t.Fatal(hallWorldTold(w))
	}
	w = hallCalmed(t, "rounds", w, 40)
	wantHallDone(t, "rounds", w, true)
	w = hallStepped(t, "heard", w, hallEvent(impl.HallHear, 0, 1))
	if w.Asked[1] != (impl.HallAsked{Text: "slip 7 d1 3 web:0 ann make web dock fleet 1,2,,,,", From: 2, To: 44, Said: impl.GateSaid{Version: 4}}) {
		t.Error(hallWorldTold(w))
	}
	// Asked behind the answer: it stands behind it.
	w = hallStepped(t, "an end", w, throughEvent(t, 1, 8, "ann end web 4"))
	w = hallStepped(t, "the first one falls", w, hallEvent(impl.RecEvFall, 0, 0))
	w = hallCalmed(t, "rounds", w, 60)
	w = hallStepped(t, "heard", w, hallEvent(impl.HallHear, 1, 2))
	if w.Asked[2].To != w.Now || w.Asked[2].Said != (impl.GateSaid{Version: 5}) {
		t.Error(hallWorldTold(w))
	}
	wantRight(t, "an end", w, true)
	wantHallDone(t, "an end", w, true)
	if b := impl.HallView(w, 2); len(b.Gate.Objects)+len(b.Stew.Services)+len(b.Stew.Copies) != 0 {
		t.Error(hallTold(b))
	}
}
