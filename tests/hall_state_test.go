package tests

import (
	"slices"
	"testing"

	"loop.example/wharfhall/impl"
)

// Day by day: what each text is told where it stands, whichever texts come behind it, and what each beginning leads to.
func TestADayOfTexts(t *testing.T) {
	h, texts := yardHouse(), dayTexts()
	b := impl.HallFirst(h)
	for i, c := range yardDay() {
		wantLed(t, "as far as "+c.text, h, texts[:i], b)
		wantTold(t, "at the end", h, texts[:i+1], c.text, c.said)
		wantTold(t, "in the whole day", h, texts, c.text, c.said)
		wantUntold(t, "before it is there", h, texts[:i], c.text)
		b, _ = impl.HallDo(h, b, readEntry(t, c.text))
	}
	wantLed(t, "the whole day", h, texts, b)
	if len(b.Gate.Objects)+len(b.Stew.Services)+len(b.Stew.Copies) != 0 || b.Gate.Now != 10 || b.Stew.Now != 16 || b.Gate.Ledgers[0].Free != 5 {
		t.Errorf("%s", hallTold(b))
	}
}

func TestNoTexts(t *testing.T) {
	for what, h := range okHouses() {
		for _, texts := range [][]string{nil, {}} {
			wantLed(t, what, h, texts, impl.HallFirst(h))
			wantUntold(t, what, h, texts, "sea 1 tick")
			wantUntold(t, what, h, texts, "")
		}
		wantTold(t, what, h, []string{"sea 1 tick"}, "sea 1 tick", impl.GateSaid{Version: 1})
	}
}

func TestTextsInHousesThatAreNotOk(t *testing.T) {
	for what, h := range wrongHouses() {
		for _, texts := range [][]string{nil, {"sea 1 tick"}, {"", "no entry"}, dayTexts()} {
			wantLed(t, what, h, texts, impl.HallBook{})
			for _, text := range []string{"sea 1 tick", "sea 1 raise a", "no entry", ""} {
				wantUntold(t, what, h, texts, text)
			}
		}
	}
}

// What is not read counts for nothing wherever it stands, though it is nearly an entry, and is told nothing.
func TestTextsThatAreNotRead(t *testing.T) {
	t.Parallel()
	h, day := yardHouse(), dayTexts()
	for _, text := range unreadTexts() {
		wantUnread(t, "not to be read", text)
		wantLed(t, "alone", h, []string{text}, impl.HallFirst(h))
		wantLed(t, "twice", h, []string{text, text}, impl.HallFirst(h))
		wantUntold(t, "alone", h, []string{text}, text)
		for _, at := range []int{0, 1, len(day) / 2, len(day)} {
			texts := slices.Insert(slices.Clone(day), at, text)
			wantLed(t, "at "+count(at), h, texts, stateByHand(h, day))
			wantUntold(t, "at "+count(at), h, texts, text)
			wantDayTold(t, "beside "+text, texts)
		}
	}
	wantLed(t, "all of them", h, unreadTexts(), impl.HallFirst(h))
	wantLed(t, "all of them around a text", h, slices.Concat(unreadTexts(), []string{"sea 1 raise a"}, unreadTexts()), stateByHand(h, []string{"sea 1 raise a"}))
}

func TestTextsThatDoNotStandThere(t *testing.T) {
	h := yardHouse()
	for _, text := range []string{"sea 9 tick", "sea 2 raise a", "sea 1 raise b", "sea 1 drain a", "time 2", "act 4 web 4 0 1:1 * *", "slip 1 d1 3 web:0 ann make web dock audit,fleet 1,2,,,10,"} {
		readEntry(t, text)
		wantUntold(t, "not there", h, dayTexts(), text)
	}
	for _, text := range append(unreadTexts(), "sea 1 raise", "ea 1 raise a") {
		wantUntold(t, "neither there nor read", h, dayTexts(), text)
	}
}

// Promise 36: a text that comes again, next to itself or far, once or often, changes nothing and is told what it was told.
func TestATextThatComesAgain(t *testing.T) {
	t.Parallel()
	h, day := yardHouse(), dayTexts()
	want := stateByHand(h, day)
	for i, c := range yardDay() {
		for _, at := range []int{i + 1, i + 2, (i + len(day)) / 2, len(day)} {
			if at <= i || at > len(day) {
				continue
			}
			for _, times := range []int{1, 2, 5} {
				texts := slices.Insert(slices.Clone(day), at, slices.Repeat([]string{c.text}, times)...)
				wantLed(t, c.text+" again", h, texts, want)
				wantTold(t, "again", h, texts, c.text, c.said)
				wantTold(t, "beside one that comes again", h, texts, day[len(day)-1], codeAlone(2))
			}
		}
	}
	wantLed(t, "the day twice", h, slices.Concat(day, day), want)
	wantLed(t, "the day, and then backwards", h, slices.Concat(day, reversed(dayTexts())), want)
	wantDayTold(t, "the day twice", slices.Concat(day, day))
	wantDayTold(t, "the day, and then backwards", slices.Concat(day, reversed(dayTexts())))
}

// A text that was refused is not tried again, though by now it would be done; with another Number it is.
func TestARefusedTextIsNotTriedAgain(t *testing.T) {
	h := yardHouse()
	for _, c := range []struct {
		text, other string
		between     string
		first, then impl.GateSaid
	}{
		{"sea 1 load web 5", "sea 2 load web 5", "slip 1 d1 3 * ann make web dock fleet 1,2,,,10,", undone(3), impl.GateSaid{Version: 2}},
		{"sea 1 sink a", "sea 2 sink a", "sea 1 raise a", undone(3), impl.GateSaid{Version: 2}},
		{"draw 1 d1 dock copies 3", "draw 2 d1 dock copies 3", "bound 1 dock copies 5", codeAlone(2), impl.GateSaid{}},
		{"back 1 d1 dock copies", "back 2 d1 dock copies", "bound 1 dock copies 5|draw 1 d1 dock copies 3", codeAlone(2), impl.GateSaid{}},
		{"slip 1 d1 3 * ann end web 0", "slip 3 d1 3 * ann end web 0", "slip 2 d1 3 * ann make web dock fleet 1,2,,,,", codeAlone(3), impl.GateSaid{Version: 5}},
		{"slip 1 d1 4 * ann take 2", "slip 3 d1 4 * ann take 2", "slip 2 d1 3 * ann give bob 1 * * *", codeAlone(12), impl.GateSaid{Version: 5}},
		{"act 1 web 1 2 * * *", "act 2 web 1 2 * * *", "slip 1 d1 3 * ann make web dock fleet 1,2,,,,", undone(3), impl.GateSaid{Version: 2}},
		{"sweep 1", "sweep 2", "slip 1 d1 3 * ann make web dock fleet 1,2,,,,|slip 2 d1 3 * ann end web 0|act 2 web 2 0 * * drop", codeAlone(2), impl.GateSaid{}},
	} {
		ahead := append([]string{c.text}, textsOf(c.between)...)
		led := stateByHand(h, ahead)
		wantLed(t, c.text, h, append(slices.Clone(ahead), c.text), led)
		wantTold(t, "refused", h, append(slices.Clone(ahead), c.text), c.text, c.first)
		wantTold(t, "with another Number", h, append(slices.Clone(ahead), c.text, c.other), c.other, c.then)
		if done := stateByHand(h, append(ahead, c.other)); sameHall(done, led) {
			t.Errorf("%s changes nothing in %s", c.other, hallTold(led))
		}
		wantLed(t, c.other, h, append(ahead, c.other, c.text), stateByHand(h, append(ahead, c.other)))
	}
}

// The other way round: a text that was done is not done again, though it could be.
func TestADoneTextIsNotDoneAgain(t *testing.T) {
	h := yardHouse()
	texts := []string{"sea 1 raise a", "sea 1 sink a", "sea 1 raise a", "sea 1 sink a", "sea 2 raise a", "sea 1 sink a"}
	wantLed(t, "raised and sunk", h, texts, impl.HallBook{Gate: impl.HallFirst(h).Gate, Stew: impl.StewBook{Now: 3, Berths: []impl.StewBerth{{Name: "a"}}}})
	wantTold(t, "raised", h, texts, "sea 1 raise a", impl.GateSaid{Version: 1})
	wantTold(t, "sunk", h, texts, "sea 1 sink a", impl.GateSaid{Version: 2})
	wantTold(t, "raised anew", h, texts, "sea 2 raise a", impl.GateSaid{Version: 3})
	ticks := []string{"sea 1 tick", "sea 1 tick", "sea 2 tick", "sea 1 tick", "sea 2 tick", "sea 1000000 tick"}
	if b := impl.HallState(h, ticks); b.Stew.Now != 3 {
		t.Errorf("three ticks lead to %d", b.Stew.Now)
	}
	wantTold(t, "the last tick", h, ticks, "sea 1000000 tick", impl.GateSaid{Version: 3})
}

// A text that is not read does not stand for the one that it is nearly: that one counts behind it.
func TestATextIsSeenByAllItsBytes(t *testing.T) {
	h := yardHouse()
	for _, near := range []string{"sea 1 raise a ", "sea 1 raise", "sea 01 raise a", "sea 1 raise A", "sea 1 raise a\x00"} {
		wantTold(t, near, h, []string{near, "sea 1 raise a"}, "sea 1 raise a", impl.GateSaid{Version: 1})
	}
	texts := []string{"sea 1 raise a", "sea 1 raise aa", "sea 11 raise a", "sea 1 drain a", "sea 2 raise a"}
	for i, text := range texts {
		wantTold(t, "one of several", h, texts, text, impl.GateSaid{Version: i + 1})
	}
}

// A row may have more texts than recorders keep.
func TestARowOfManyTexts(t *testing.T) {
	h := yardHouse()
	var texts []string
	for i := range 700 {
		texts = append(texts, "sea "+count(1+i)+" tick", "time "+count(1+i/2), "draw 1 d1 dock copies 1")
	}
	wantLed(t, "many", h, texts, impl.HallBook{Gate: impl.GateBook{Now: 3, Given: 3, Tick: 350, Grants: h.Grants}, Stew: impl.StewBook{Now: 700}})
	wantTold(t, "many", h, texts, "sea 700 tick", impl.GateSaid{Version: 700})
	wantTold(t, "many", h, texts, "draw 1 d1 dock copies 1", codeAlone(2))
}

// What is said hangs on the texts ahead alone, and on the house: in another one it is something else.
func TestTextsInAnotherHouse(t *testing.T) {
	text := "slip 1 d1 1 web:0 ann make web n100 fleet 1,2,,,,"
	one := impl.HallHouse{Teams: manyTeams(1), Grants: manyGrants(1)}
	two := impl.HallHouse{Teams: manyTeams(1), Grants: manyGrants(2)}
	none := impl.HallHouse{Teams: manyTeams(1)}
	bare := impl.HallHouse{Grants: manyGrants(1)}
	wantTold(t, "one grant", one, []string{text}, text, impl.GateSaid{Version: 2})
	wantTold(t, "two grants", two, []string{text}, text, codeAlone(12))
	wantTold(t, "no grants", none, []string{text}, text, codeAlone(12))
	wantTold(t, "no teams", bare, []string{text}, text, codeAlone(2))
	wantLed(t, "no teams", bare, []string{text, "sea 1 tick"}, impl.HallBook{Gate: impl.HallFirst(bare).Gate, Stew: impl.StewBook{Now: 1}})
}
