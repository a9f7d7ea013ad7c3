package tests

import (
	"strings"
	"testing"

	"loop.example/wharfhall/impl"
)

func TestFixedTexts(t *testing.T) {
	for told, texts := range map[string][]string{
		"":                 nil,
		"1:a":              {"a"},
		"1:a 2:b 3:c":      {"a", "b", "c"},
		"2:b":              nil,
		"2:b 3:c":          nil,
		"1:a 3:c":          {"a"},
		"1:a 2:b 4:d 5:e":  {"a", "b"},
		"1:":               {""},
		"1: 2:b 3:":        {"", "b", ""},
		"1:a 2:a 3:a 9:a":  {"a", "a", "a"},
		"120:z":            nil,
		"1:a 120:z":        {"a"},
		"1:a 2: 4:d 120:z": {"a", ""},
	} {
		w := impl.HallNew(yardHouse(), 3)
		w.Rec.Fixed = fixes(told)
		wantFixedTexts(t, told, w, texts...)
	}
	w := impl.HallNew(yardHouse(), 3)
	w.Rec.Fixed = allFixed(impl.RecMaxSlots)
	var all []string
	for _, f := range w.Rec.Fixed {
		all = append(all, f.Text)
	}
	wantFixedTexts(t, "all places", w, all...)
	w.Rec.Fixed = w.Rec.Fixed[1:]
	wantFixedTexts(t, "all places but the first", w)
	// What is known, or most have, and is not noted, does not count.
	w = toldWorld(3, "a", "b")
	w.Rec.Fixed = w.Rec.Fixed[:1]
	wantFixedTexts(t, "not noted", w, "a")
	wantFixedTexts(t, "in a busy world", busyWorld(), "a", "b")
	wantFixedTexts(t, "at a time below 0", turnedHallWorld(busyWorld(), func(w *impl.HallWorld) { w.Now, w.Asked = -1, nil }))
}

// heardDay is a world in which all of a day is known to all, and those texts of it were asked and heard which are told by
// their places, each at the time of its place and answered three events later, as it was said on the day.
func heardDay(places ...int) impl.HallWorld {
	w := toldWorld(3, dayTexts()...)
	w.Now = 100
	for _, at := range places {
		w.Asked = append(w.Asked, impl.HallAsked{Text: dayTexts()[at], From: at, To: at + 3, Said: yardDay()[at].said})
	}
	return w
}

func TestWhatWasHeardIsRight(t *testing.T) {
	wantRight(t, "nothing was heard", heardDay(), true)
	for at := range yardDay() {
		wantRight(t, yardDay()[at].text, heardDay(at), true)
	}
	wantRight(t, "several", heardDay(0, 3, 4, 6, 7, 8, 9, 12, 17, 18, 30, 31), true)
	wantRight(t, "told backwards", heardDay(31, 30, 18, 17, 12, 9, 8, 7, 6, 4, 3, 0), true)
	for _, w := range []impl.HallWorld{impl.HallNew(yardHouse(), 1), lateHall(), deskWorld()} {
		wantRight(t, "nothing is wrong", w, true)
	}
	wantRight(t, "they do not agree", busyWorld(), false)
}

// An answer is right if it is in all its parts what was said.
func TestAnotherAnswerIsNotRight(t *testing.T) {
	t.Parallel()
	for at, c := range yardDay() {
		for what, turn := range map[string]func(s *impl.GateSaid){
			"the Code":            func(s *impl.GateSaid) { s.Code++ },
			"the Code below":      func(s *impl.GateSaid) { s.Code-- },
			"the Place":           func(s *impl.GateSaid) { s.Place++ },
			"the Place below":     func(s *impl.GateSaid) { s.Place-- },
			"the Version":         func(s *impl.GateSaid) { s.Version++ },
			"the Version below":   func(s *impl.GateSaid) { s.Version-- },
			"the Place, for Code": func(s *impl.GateSaid) { s.Code, s.Place = s.Place-1, s.Code },
		} {
			w := heardDay(0, at, 31)
			if at == 0 || at == 31 {
				w = heardDay(at)
			}
			for i := range w.Asked {
				if w.Asked[i].Text == c.text {
					turn(&w.Asked[i].Said)
				}
			}
			wantRight(t, c.text+", "+what, w, false)
		}
	}
	// What was not heard has no answer, whatever would be said.
	w := heardDay(4)
	w.Asked[0].To, w.Asked[0].Said = 0, impl.GateSaid{}
	wantRight(t, "not heard", w, true)
}

// An answer to what does not stand in the row, or stands behind a gap, is not right, though somebody may have told it.
func TestAnswersThatNobodyTells(t *testing.T) {
	w := heardDay(0)
	w.Asked = []impl.HallAsked{{Text: "sea 77 tick", From: 1, To: 2}}
	wantRight(t, "it does not stand there", w, false)
	w.Asked[0].Said.Version = 17
	wantRight(t, "it does not stand there, and would be told so", w, false)
	w.Asked[0] = impl.HallAsked{Text: "sea 77 tick", From: 1}
	wantRight(t, "it was not heard", w, true)
	gap := impl.HallNew(yardHouse(), 3)
	gap.Now, gap.Rec.Fixed = 9, []impl.RecFix{{Index: 1, Text: "sea 1 raise a"}, {Index: 3, Text: "sea 1 raise b"}}
	gap.Asked = []impl.HallAsked{{Text: "sea 1 raise a", From: 1, To: 2, Said: impl.GateSaid{Version: 1}}}
	wantRight(t, "ahead of a gap", gap, true)
	gap.Asked[0].Text = "sea 1 raise b"
	wantRight(t, "behind a gap", gap, false)
	// Known to somebody, and not fixed: the recorders do not agree then.
	known := turnedHallWorld(gap, func(w *impl.HallWorld) { w.Asked = nil }, hallRecorderAt(0, knowing(3, "sea 1 raise a", "sea 1 raise c")))
	wantRight(t, "known and not fixed", known, false)
}

// In another house another thing would have been said.
func TestAnswersInAnotherHouse(t *testing.T) {
	w := heardDay(4)
	wantRight(t, "its own", w, true)
	w.House.Grants = w.House.Grants[:1]
	wantRight(t, "another one", w, false)
	w.Asked[0].Said = codeAlone(12)
	wantRight(t, "as it is said there", w, true)
}

func TestDisagreementIsNotRight(t *testing.T) {
	for what, turn := range map[string]func(w *impl.HallWorld){
		"one knows another text":   hallRecorderAt(1, func(r *impl.Recorder) { r.Disk.Slots[2].Text = "other" }),
		"one knows a text more":    hallRecorderAt(2, func(r *impl.Recorder) { takes("more")(r); r.Disk.Known++ }),
		"another text is fixed":    func(w *impl.HallWorld) { w.Rec.Fixed[5].Text = "other" },
		"a known text is missing":  func(w *impl.HallWorld) { w.Rec.Fixed = w.Rec.Fixed[:31] },
		"the first one is missing": func(w *impl.HallWorld) { w.Rec.Fixed = w.Rec.Fixed[1:] },
		"most have more safe": func(w *impl.HallWorld) {
			for at := range 2 {
				takes("more")(&w.Rec.Recorders[at])
				w.Rec.Recorders[at].Safe.Slots = append(w.Rec.Recorders[at].Safe.Slots, impl.RecSlot{Ballot: 3, Text: "more"})
			}
		},
	} {
		wantRight(t, what, turnedHallWorld(heardDay(0, 4), turn), false)
		wantRight(t, what+", and nothing was asked", turnedHallWorld(heardDay(), turn), false)
	}
	for what, turn := range map[string]func(w *impl.HallWorld){
		"one has taken more": hallRecorderAt(1, takes("more")),
		"one knows less":     hallRecorderAt(2, knowing(3, dayTexts()[:7]...)),
		"one knows nothing":  hallRecorderAt(2, knowing(3)),
		"one that is down":   hallRecorderAt(0, down),
		"more is fixed":      func(w *impl.HallWorld) { w.Rec.Fixed = append(w.Rec.Fixed, impl.RecFix{Index: 33, Text: "more"}) },
		"more behind a gap":  func(w *impl.HallWorld) { w.Rec.Fixed = append(w.Rec.Fixed, impl.RecFix{Index: 99, Text: "more"}) },
		"a text that was heard": func(w *impl.HallWorld) {
			w.Rec.Fixed = append(w.Rec.Fixed, impl.RecFix{Index: 33, Text: dayTexts()[4]})
		},
	} {
		wantRight(t, what, turnedHallWorld(heardDay(0, 4), turn), true)
	}
}

// What was asked behind an answer stands first behind what was answered, if it stands there.
func TestWhatWasAskedBehindAnAnswer(t *testing.T) {
	// Of the row, the text at 4 stands ahead of the one at 8.
	first, second := 4, 8
	for _, c := range []struct {
		what      string
		heard, by int // whose answer was heard at 10, and whose ask is held against it
		from      int
		right     bool
	}{
		{"asked behind it, stands behind it", first, second, 11, true},
		{"asked at the same time, stands behind it", first, second, 10, true},
		{"asked ahead, stands behind it", first, second, 9, true},
		{"asked behind it, stands ahead", second, first, 11, false},
		{"asked far behind it, stands ahead", second, first, 99, false},
		{"asked at the same time, stands ahead", second, first, 10, true},
		{"asked ahead, stands ahead", second, first, 9, true},
		{"asked as early as may be, stands ahead", second, first, 0, true},
	} {
		heard := impl.HallAsked{Text: dayTexts()[c.heard], From: 5, To: 10, Said: yardDay()[c.heard].said}
		for _, other := range []impl.HallAsked{
			{Text: dayTexts()[c.by], From: c.from},
			{Text: dayTexts()[c.by], From: c.from, To: 100, Said: yardDay()[c.by].said},
		} {
			w := heardDay()
			w.Asked = []impl.HallAsked{heard, other}
			wantRight(t, c.what, w, c.right)
			w.Asked = []impl.HallAsked{{Text: "time 400", From: 2}, other, heard, {Text: "time 401", From: 99}}
			wantRight(t, c.what+", told the other way around", w, c.right)
		}
		// Nobody heard of it: then it says nothing of another one.
		w := heardDay()
		w.Asked = []impl.HallAsked{{Text: dayTexts()[c.heard], From: 5}, {Text: dayTexts()[c.by], From: c.from}}
		wantRight(t, c.what+", and not heard", w, true)
	}
	w := heardDay()
	w.Asked = []impl.HallAsked{{Text: dayTexts()[8], From: 5, To: 10, Said: yardDay()[8].said}, {Text: "sea 800 tick", From: 50}}
	wantRight(t, "what does not stand there", w, true)
}

// It is where a text stands first that counts.
func TestWhereATextStandsFirst(t *testing.T) {
	a, b := "sea 1 raise a", "sea 1 raise b"
	for told, right := range map[string]bool{
		"a b":     true,
		"b a":     false,
		"a b a":   true,
		"b a b":   false,
		"a a b":   true,
		"a b b a": true,
		"b b a b": false,
		"a":       true,
	} {
		var texts []string
		for _, word := range strings.Fields(told) {
			texts = append(texts, map[string]string{"a": a, "b": b}[word])
		}
		w := toldWorld(2, texts...)
		said, _ := impl.HallTold(w.House, texts, a)
		w.Now = 9
		w.Asked = []impl.HallAsked{{Text: a, From: 1, To: 2, Said: said}, {Text: b, From: 3}}
		wantRight(t, told, w, right)
		w.Asked[1].From = 2
		wantRight(t, told+", asked when it was heard", w, true)
	}
}

// doneDay are texts that lead to books in which all is done, with a service that has its copies.
func doneDay() []string {
	return []string{"sea 1 raise a", "slip 1 d1 3 * ann make web dock fleet 1,2,,,,", "act 2 web 2 2 * * *", "sea 1 tick", "sea 2 tick"}
}

func TestHallsThatAreDone(t *testing.T) {
	for n := 1; n <= impl.RecMaxRecorders; n++ {
		w := toldWorld(n, doneDay()...)
		wantHallDone(t, "done", w, true)
		wantHallDone(t, "done, and one leads", turnedHallWorld(w, hallRecorderAt(n-1, leading)), true)
		wantHallDone(t, "nothing was ever asked", impl.HallNew(yardHouse(), n), true)
	}
	w := toldWorld(3, doneDay()...)
	for what, turn := range map[string]func(w *impl.HallWorld){
		"one tries":            hallRecorderAt(0, trying),
		"one holds something":  hallRecorderAt(1, func(r *impl.Recorder) { r.Held = plainMessages(3, 2) }),
		"messages under way":   func(w *impl.HallWorld) { w.Rec.Flight = plainFlight(20) },
		"not safe":             hallRecorderAt(1, func(r *impl.Recorder) { r.Safe = impl.RecDisk{} }),
		"other ballots":        hallRecorderAt(1, knowing(7, doneDay()...)),
		"nothing is fixed":     func(w *impl.HallWorld) { w.Rec.Fixed = nil },
		"somebody waits":       func(w *impl.HallWorld) { w.Asked = manyAsked(12); w.Now = 3 },
		"one is down":          hallRecorderAt(0, down),
		"two are down":         func(w *impl.HallWorld) { down(&w.Rec.Recorders[0]); down(&w.Rec.Recorders[2]) },
		"one is down and late": func(w *impl.HallWorld) { knowing(3, "sea 1 raise a")(&w.Rec.Recorders[1]); down(&w.Rec.Recorders[1]) },
		"one is down and has taken more": func(w *impl.HallWorld) {
			takes("time 1")(&w.Rec.Recorders[0])
			down(&w.Rec.Recorders[0])
		},
		"the first is down and knows another text": func(w *impl.HallWorld) {
			knowing(3, "no entry")(&w.Rec.Recorders[0])
			down(&w.Rec.Recorders[0])
		},
	} {
		wantHallDone(t, what, turnedHallWorld(w, turn), true)
	}
}

func TestHallsThatAreNotDone(t *testing.T) {
	w := toldWorld(3, doneDay()...)
	for what, turn := range map[string]recTurn{
		"has a wish":           wishes("time 1"),
		"has a wish it knows":  wishes("sea 1 tick"),
		"has many wishes":      wishes(names(impl.RecMaxWishes)...),
		"has taken one more":   takes("time 1"),
		"knows one less":       func(r *impl.Recorder) { r.Disk.Known-- },
		"knows nothing of it":  func(r *impl.Recorder) { r.Disk.Known = 0 },
		"has one text less":    knowing(3, doneDay()[:4]...),
		"has one text more":    knowing(3, append(doneDay(), "time 1")...),
		"has no texts":         knowing(3),
		"has another text":     knowing(3, append(doneDay()[:4], "sea 3 tick")...),
		"has an odd text more": knowing(3, append(doneDay(), "")...),
	} {
		for at := range 3 {
			wantHallDone(t, count(at)+" "+what, turnedHallWorld(w, hallRecorderAt(at, turn)), false)
			wantHallDone(t, count(at)+" "+what+", and is down", turnedHallWorld(w, hallRecorderAt(at, turn), hallRecorderAt(at, down)), true)
		}
	}
	all := func(w *impl.HallWorld) {
		for at := range w.Rec.Recorders {
			down(&w.Rec.Recorders[at])
		}
	}
	wantHallDone(t, "all are down", turnedHallWorld(w, all), false)
	wantHallDone(t, "all are down, and know nothing", turnedHallWorld(impl.HallNew(yardHouse(), 2), all), false)
}

// All recorders have the same texts, and these do not lead to books in which all is done.
func TestHallsWhoseBooksAreNotDone(t *testing.T) {
	day := doneDay()
	for n := range len(day) + 1 {
		wantHallDone(t, count(n)+" texts", toldWorld(2, day[:n]...), n <= 1 || n == len(day))
	}
	for what, texts := range map[string][]string{
		"a copy has failed": append(doneDay(), "sea 3 fails web 1"),
		"no berth is left":  append(doneDay(), "sea 3 sink a"),
		"another image":     append(doneDay(), "slip 2 d1 3 * ann change web 0 2,2,,,,"),
		"it is to end":      append(doneDay(), "slip 2 d1 3 * ann end web 0"),
		"a berth to drain":  append(doneDay(), "sea 3 drain a"),
		"a load to follow":  append(doneDay(), "slip 2 d1 3 * ann make zip dock fleet 1,1,,,10,", "sea 3 load zip 5"),
	} {
		wantHallDone(t, what, toldWorld(2, texts...), false)
	}
	// Of the gate, what is to be marked and what may go count each alone; the stewards have nothing more to do.
	ended := []string{"slip 1 d1 3 * ann make web dock audit,fleet 1,0,,,,", "slip 2 d1 3 * ann end web 0", "act 2 web 2 0 * * drop"}
	held := toldWorld(2, ended...)
	wantGate(t, "held by others", held, 0, 0)
	wantHallDone(t, "held by others", held, true)
	going := toldWorld(2, append(ended, "slip 3 d1 3 * ann letgo web audit")...)
	wantGate(t, "to go", going, 0, 1)
	wantHallDone(t, "to go", going, false)
	gone := toldWorld(2, append(ended, "slip 3 d1 3 * ann letgo web audit", "sweep 1")...)
	wantGate(t, "gone", gone, 0, 0)
	wantHallDone(t, "gone", gone, true)
	owned := append([]string{ended[0], "slip 3 d1 3 * ann make api dock fleet 1,0,,,,web", ended[1]}, "act 3 web 3 0 * * drop")
	marked := toldWorld(2, owned...)
	wantGate(t, "to be marked", marked, 1, 0)
	wantHallDone(t, "to be marked", marked, false)
	wantHallDone(t, "marked, and to be dropped", toldWorld(2, append(owned, "sweep 1")...), false)
	wantHallDone(t, "dropped, and to go", toldWorld(2, append(owned, "sweep 1", "act 5 api 5 0 * * drop")...), false)
	wantHallDone(t, "all but what others hold is gone", toldWorld(2, append(owned, "sweep 1", "act 5 api 5 0 * * drop", "sweep 2")...), true)
}

// wantGate asks how many objects are to be marked, and how many may go, in books whose stewards have nothing to do.
func wantGate(t *testing.T, what string, w impl.HallWorld, mark, going int) {
	t.Helper()
	l, b := impl.HallLaw(w.House), impl.HallView(w, 0)
	if !impl.StewDone(b.Stew) || len(impl.GateMark(l, b.Gate)) != mark || len(impl.GateGoing(l, b.Gate)) != going {
		t.Errorf("%s: %s", what, hallTold(b))
	}
}
