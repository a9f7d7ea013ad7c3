package tests

import (
	"slices"
	"testing"

	"loop.example/wharfhall/impl"
)

func TestNewHallWorlds(t *testing.T) {
	for what, h := range okHouses() {
		for n := 1; n <= impl.RecMaxRecorders; n++ {
			w := impl.HallNew(h, n)
			if !sameHallWorld(w, impl.HallWorld{House: h, Rec: impl.RecNewWorld(n)}) {
				t.Errorf("%s: HallNew of %d = %s", what, n, hallWorldTold(w))
			}
			wantHallWorld(t, what, w, true)
			wantRight(t, what, w, true)
			wantHallDone(t, what, w, true)
			wantFixedTexts(t, what, w)
			wantView(t, what, w, n-1, impl.HallFirst(h))
		}
		for _, n := range []int{-1 << 62, -1, 0, impl.RecMaxRecorders + 1, 1 << 62} {
			wantNoHallNew(t, what, h, n)
		}
	}
	for what, h := range wrongHouses() {
		for n := range impl.RecMaxRecorders + 2 {
			wantNoHallNew(t, what, h, n)
		}
	}
}

func wantNoHallNew(t *testing.T, what string, h impl.HallHouse, n int) {
	t.Helper()
	if w := impl.HallNew(h, n); !sameHallWorld(w, impl.HallWorld{}) {
		t.Errorf("%s: HallNew of %d = %s", what, n, hallWorldTold(w))
	}
}

// busyWorld is an ok world at the time 9 in which one leads, one tries and one is down. Of what was asked the first was
// done and the third was refused, and both were heard; the others were not.
func busyWorld() impl.HallWorld {
	return impl.HallWorld{House: yardHouse(), Rec: recCrowd(), Now: 9, Asked: []impl.HallAsked{
		{Text: "sea 1 raise a", From: 1, To: 4, Said: impl.GateSaid{Version: 1}},
		{Text: "sea 1 raise b", From: 1},
		{Text: "sea 1 sink c", From: 5, To: 6, Said: impl.GateSaid{Code: 14, Place: 3}},
		{Text: "slip 1 d1 3 web:0 ann make web dock fleet 1,2,,,,", From: 8},
	}}
}

func TestHallWorldsThatAreOk(t *testing.T) {
	wantHallWorld(t, "a busy world", busyWorld(), true)
	for what, turn := range map[string]func(w *impl.HallWorld){
		"nothing was asked":       func(w *impl.HallWorld) { w.Asked = nil },
		"an empty list":           func(w *impl.HallWorld) { w.Asked = []impl.HallAsked{} },
		"at the beginning":        func(w *impl.HallWorld) { w.Now, w.Asked = 0, []impl.HallAsked{{Text: "sea 1 tick"}} },
		"asked at 0":              func(w *impl.HallWorld) { w.Asked[1].From = 0 },
		"asked at 0, heard at 1":  func(w *impl.HallWorld) { w.Asked[0].From, w.Asked[0].To = 0, 1 },
		"asked now":               func(w *impl.HallWorld) { w.Asked[1].From = 9 },
		"heard one event behind":  func(w *impl.HallWorld) { w.Asked[0].From, w.Asked[0].To = 3, 4 },
		"heard now":               func(w *impl.HallWorld) { w.Asked[0].To = 9 },
		"asked at 8, heard now":   func(w *impl.HallWorld) { w.Asked[0].From, w.Asked[0].To = 8, 9 },
		"heard, and nothing said": func(w *impl.HallWorld) { w.Asked[0].Said = impl.GateSaid{} },
		"heard, and all said":     func(w *impl.HallWorld) { w.Asked[0].Said = impl.GateSaid{Code: -1, Place: 1 << 62, Version: -7} },
		"in no order":             func(w *impl.HallWorld) { w.Asked[0].From, w.Asked[1].From = 3, 2 },
		"the greatest Now":        func(w *impl.HallWorld) { w.Now = 1<<63 - 1 },
		"all at the end":          func(w *impl.HallWorld) { w.Now, w.Asked[0].From, w.Asked[0].To = 1<<63-1, 1<<63-2, 1<<63-1 },
		"an act":                  func(w *impl.HallWorld) { w.Asked[1].Text = "act 7 web 3 0 * * drop" },
		"the greatest Number":     func(w *impl.HallWorld) { w.Asked[1].Text = "sea 1000000 tick" },
		"another house":           func(w *impl.HallWorld) { w.House = impl.HallHouse{} },
		"one recorder":            func(w *impl.HallWorld) { w.Rec = impl.RecNewWorld(1) },
		"what nobody knows":       func(w *impl.HallWorld) { w.Rec = impl.RecNewWorld(5) },
		"as many as may be":       func(w *impl.HallWorld) { w.Asked = manyAsked(impl.HallMaxAsked) },
	} {
		wantHallWorld(t, what, turnedHallWorld(busyWorld(), turn), true)
	}
}

// manyAsked are n texts, none of which was heard.
func manyAsked(n int) []impl.HallAsked {
	var out []impl.HallAsked
	for i := range n {
		out = append(out, impl.HallAsked{Text: "time " + count(1+i), From: i % 3})
	}
	return out
}

func TestHallWorldsThatAreNotOk(t *testing.T) {
	wantHallWorld(t, "nothing", impl.HallWorld{}, false)
	for what, turn := range map[string]func(w *impl.HallWorld){
		"a wrong house":                 func(w *impl.HallWorld) { w.House.Grants[1].By = "ann" },
		"wrong teams":                   func(w *impl.HallWorld) { w.House.Teams = reversed(yardTeams()) },
		"no recorders":                  func(w *impl.HallWorld) { w.Rec = impl.RecWorld{} },
		"a recorder that is not valid":  hallRecorderAt(1, heardTimes(-1)),
		"a message that is none":        func(w *impl.HallWorld) { w.Rec.Flight[0].Kind = 10 },
		"fixed out of order":            func(w *impl.HallWorld) { w.Rec.Fixed = fixes("2:a 1:b") },
		"Now below 0":                   func(w *impl.HallWorld) { w.Now, w.Asked = -1, nil },
		"the least Now":                 func(w *impl.HallWorld) { w.Now, w.Asked = -1<<63, nil },
		"one too many asked":            func(w *impl.HallWorld) { w.Asked = manyAsked(impl.HallMaxAsked + 1) },
		"by far too many asked":         func(w *impl.HallWorld) { w.Asked = manyAsked(500) },
		"an empty text":                 func(w *impl.HallWorld) { w.Asked[1].Text = "" },
		"two the same":                  func(w *impl.HallWorld) { w.Asked[3].Text = w.Asked[1].Text },
		"the first and the last same":   func(w *impl.HallWorld) { w.Asked[3].Text = w.Asked[0].Text },
		"twice the same":                func(w *impl.HallWorld) { w.Asked = append(w.Asked, w.Asked[0]) },
		"From below 0":                  func(w *impl.HallWorld) { w.Asked[1].From = -1 },
		"From below 0, and heard":       func(w *impl.HallWorld) { w.Asked[0].From = -1 },
		"From above Now":                func(w *impl.HallWorld) { w.Asked[1].From = 10 },
		"From above Now, and heard":     func(w *impl.HallWorld) { w.Asked[0].From, w.Asked[0].To = 10, 11 },
		"a Code, and To 0":              func(w *impl.HallWorld) { w.Asked[1].Said.Code = 14 },
		"a Place, and To 0":             func(w *impl.HallWorld) { w.Asked[1].Said.Place = 1 },
		"a Version, and To 0":           func(w *impl.HallWorld) { w.Asked[1].Said.Version = 1 },
		"a Version, and at 0 since 0":   func(w *impl.HallWorld) { w.Asked[1].From, w.Asked[1].Said.Version = 0, 1 },
		"To at From":                    func(w *impl.HallWorld) { w.Asked[0].To = 1 },
		"To below From":                 func(w *impl.HallWorld) { w.Asked[2].To = 4 },
		"To below 0":                    func(w *impl.HallWorld) { w.Asked[0].To = -1 },
		"To below 0, and nothing said":  func(w *impl.HallWorld) { w.Asked[1].To = -1 },
		"To above Now":                  func(w *impl.HallWorld) { w.Asked[0].To = 10 },
		"Now ahead of what was heard":   func(w *impl.HallWorld) { w.Now, w.Asked = 5, w.Asked[:3] },
		"Now ahead of what was asked":   func(w *impl.HallWorld) { w.Now = 7 },
		"To at From, both now":          func(w *impl.HallWorld) { w.Asked[1].From, w.Asked[1].To = 9, 9 },
		"To at From, both at the end":   func(w *impl.HallWorld) { w.Now, w.Asked[1].From, w.Asked[1].To = 1<<63-1, 1<<63-1, 1<<63-1 },
		"To below From, at the end":     func(w *impl.HallWorld) { w.Now, w.Asked[1].From, w.Asked[1].To = 1<<63-1, 1<<63-1, 3 },
		"the last of as many as may be": func(w *impl.HallWorld) { w.Asked = manyAsked(12); w.Asked[11].Text = "time 1" },
	} {
		wantHallWorld(t, what, turnedHallWorld(busyWorld(), turn), false)
	}
}

func TestHallWorldsOfTextsThatAreNotRead(t *testing.T) {
	for _, text := range unreadTexts() {
		for at := range busyWorld().Asked {
			w := busyWorld()
			w.Asked[at].Text = text
			if impl.HallWorldOk(w) || hallWorldByHand(w) {
				t.Errorf("%.100q at %d is ok", text, at)
			}
		}
	}
	for _, f := range entryForms() {
		wantHallWorld(t, f.form, turnedHallWorld(busyWorld(), func(w *impl.HallWorld) { w.Asked[1].Text = f.form }), true)
	}
}

// lateHall is a world in which the first recorder leads and knows all of a day, the second knows some of it and has
// taken all, the third is down and knows a little, and the last two know nothing.
func lateHall() impl.HallWorld {
	w := impl.HallNew(yardHouse(), 5)
	day := dayTexts()
	knowing(6, day...)(&w.Rec.Recorders[0])
	leading(&w.Rec.Recorders[0])
	knowing(6, day...)(&w.Rec.Recorders[1])
	w.Rec.Recorders[1].Disk.Known, w.Rec.Recorders[1].Safe.Known = 9, 8
	knowing(2, day[:4]...)(&w.Rec.Recorders[2])
	w.Rec.Recorders[2].Up = false
	for i, text := range day {
		w.Rec.Fixed = append(w.Rec.Fixed, impl.RecFix{Index: i + 1, Text: text})
	}
	return w
}

func TestHallViews(t *testing.T) {
	w := lateHall()
	wantHallWorld(t, "late", w, true)
	h, day := yardHouse(), dayTexts()
	for at, want := range []impl.HallBook{impl.HallState(h, day), impl.HallState(h, day[:9]), impl.HallState(h, day[:4]), impl.HallFirst(h), impl.HallFirst(h)} {
		wantView(t, "late, at "+count(at), w, at, want)
	}
	for _, at := range []int{-1 << 62, -5, -1, 5, 6, 1 << 62} {
		wantView(t, "not there", w, at, impl.HallBook{})
	}
	for n := 1; n <= impl.RecMaxRecorders; n++ {
		wantView(t, "the last one", impl.HallNew(h, n), n-1, impl.HallFirst(h))
		wantView(t, "behind the last one", impl.HallNew(h, n), n, impl.HallBook{})
	}
	// What is no entry, or comes again, counts for nothing there, too.
	odd := toldWorld(2, "", "sea 1 raise a", "no entry", "sea 1 raise a", "sea 1 raise b")
	wantView(t, "odd texts", odd, 1, impl.HallState(h, []string{"sea 1 raise a", "sea 1 raise b"}))
	wantView(t, "in a busy world", busyWorld(), 0, impl.HallFirst(h))
	if b := impl.HallView(odd, 0); len(b.Stew.Berths) != 2 || b.Stew.Now != 2 {
		t.Errorf("%s", hallTold(b))
	}
}

// A view is of what is known of the Disk: neither of what is safe, nor of what is fixed.
func TestHallViewsAreOfTheDisk(t *testing.T) {
	w := toldWorld(1, "sea 1 raise a")
	w.Rec.Recorders[0].Disk.Slots = append(w.Rec.Recorders[0].Disk.Slots, impl.RecSlot{Ballot: 1, Text: "sea 1 raise b"})
	w.Rec.Fixed = append(w.Rec.Fixed, impl.RecFix{Index: 2, Text: "sea 1 raise b"})
	wantView(t, "not known", w, 0, impl.HallState(yardHouse(), []string{"sea 1 raise a"}))
	w.Rec.Recorders[0].Disk.Known = 2
	wantView(t, "not safe", w, 0, impl.HallState(yardHouse(), []string{"sea 1 raise a", "sea 1 raise b"}))
	w.Rec.Fixed = slices.Clone(w.Rec.Fixed[:1])
	wantView(t, "not fixed", w, 0, impl.HallState(yardHouse(), []string{"sea 1 raise a", "sea 1 raise b"}))
}
