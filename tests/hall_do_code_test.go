package tests

import (
	"testing"

	"loop.example/wharfhall/impl"
)

// oneOfEach has an entry of each Kind, and of each verb, that is done in hallBooks.
func oneOfEach() map[string]impl.GateSaid {
	gate, stew := impl.GateSaid{Version: hallGateNext}, impl.GateSaid{Version: hallStewNext}
	return map[string]impl.GateSaid{
		"slip 1 d1 3 new:0 ann make new dock fleet 1,2,,,,": gate,
		"slip 1 d1 3 web:16 ann change web 16 5,4,1,2,50,":  gate,
		"slip 1 d1 3 web:16 ann end web 16":                 gate,
		"slip 1 d1 3 web:16 ann letgo web tax":              gate,
		"slip 1 d1 3 * ann give cyd 15 service dock w":      gate,
		"slip 1 d1 3 * ann take 2":                          gate,
		"draw 1 d1 dock copies 7":                           {},
		"back 1 d1 dock copies":                             {},
		"bound 1 dock copies 100":                           {},
		"time 1":                                            {},
		"sweep 1":                                           {},
		"act 1 api 50 1 * * *":                              stew,
		"act 1 web 53 1 5:3 2:12,5:15 *":                    stew,
		"act 1 db 51 0 * * drop":                            stew,
		"sea 1 tick":                                        stew,
		"sea 1 fails api 1":                                 stew,
		"sea 1 sink a":                                      stew,
		"sea 1 raise c":                                     stew,
		"sea 1 drain a":                                     stew,
		"sea 1 load web 9":                                  stew,
		"slip 1 d1 3 new:0,api:10 ann make new dock fleet 1,2,,,,api": gate,
	}
}

// oneRefused has an entry of each Kind that is not done in hallBooks.
func oneRefused() []string {
	return []string{
		"slip 1 d1 3 * ann make new dock * 1,2,,,,", "slip 1 d1 3 * ann letgo web fleet", "slip 1 d1 2 * ann end web 0", "slip 1 d1 3 * ann take 0",
		"slip 1 d1 3 * cyd end web 0", "draw 1 d1 dock copies 8", "back 1 d9 dock copies", "bound 1 dock copies 0", "act 1 api 50 2 * * *",
		"act 1 api 50 0 * * drop", "sea 1 sink c",
	}
}

func TestEachKindIsDone(t *testing.T) {
	for text, said := range oneOfEach() {
		wantToText(t, hallBooks(), text, said)
	}
}

// The Number counts for nothing here: an entry that comes once more with another one is another entry.
func TestNumbersOfEntriesThatAreDone(t *testing.T) {
	for text, said := range oneOfEach() {
		want, _ := impl.HallDo(yardHouse(), hallBooks(), readEntry(t, text))
		for _, n := range []int{2, 500000, impl.HallMaxNumber} {
			e := readEntry(t, text)
			e.Number = n
			if got := wantHallDo(t, text, yardHouse(), hallBooks(), e, said); !sameHall(got, want) {
				t.Errorf("%s with the Number %d leads to %s, not to %s", text, n, hallTold(got), hallTold(want))
			}
		}
	}
	b := wantDoneText(t, hallBooks(), "draw 1 d1 dock copies 3", 0)
	b = wantDoneText(t, b, "draw 1 d1 dock copies 3", 0)
	wantToText(t, b, "draw 1 d1 dock copies 3", codeAlone(3))
}

// Code 1 comes ahead of all others: the books are not ok, or the house is not.
func TestEntriesForBooksThatAreNotOk(t *testing.T) {
	t.Parallel()
	for what, b := range wrongHalls() {
		for text := range oneOfEach() {
			wantToText(t, b, text, codeAlone(1))
		}
		for _, text := range oneRefused() {
			wantToText(t, b, text, codeAlone(1))
		}
		for _, e := range unformedEntries(t) {
			wantHallDo(t, what, yardHouse(), b, e, codeAlone(1))
		}
	}
}

func TestEntriesInHousesThatAreNotOk(t *testing.T) {
	for what, h := range wrongHouses() {
		for _, b := range []impl.HallBook{{}, hallBooks(), impl.HallFirst(yardHouse())} {
			wantHallDo(t, what, h, b, readEntry(t, "sea 1 tick"), codeAlone(1))
			wantHallDo(t, what, h, b, readEntry(t, "slip 1 d1 3 * ann make new dock * 1,2,,,,"), codeAlone(1))
			wantHallDo(t, what, h, b, impl.HallEntry{}, codeAlone(1))
		}
	}
}

// unformedEntries are entries that would be done, or refused, in hallBooks, if they had a form.
func unformedEntries(t *testing.T) []impl.HallEntry {
	t.Helper()
	out := []impl.HallEntry{{}, {Kind: 9, Number: 1}, {Kind: -1, Number: 1}, {Number: 1}}
	all := oneRefused()
	for text := range oneOfEach() {
		all = append(all, text)
	}
	for _, text := range all {
		e := readEntry(t, text)
		for _, n := range []int{0, -1, impl.HallMaxNumber + 1} {
			out = append(out, withNumber(e, "Number", n))
		}
		out = append(out, withNumber(e, "Kind", 0), withNumber(e, "Kind", 9), withNumber(e, "Sea.Service.Want", 1), withText(e, "Sea.Service.Name", "web"))
		if e.Kind != impl.HallDraw && e.Kind != impl.HallBack {
			out = append(out, withText(e, "Door", "d1"))
		}
		if e.Kind != impl.HallAct {
			out = append(out, withNumber(e, "Act.Seen", 50))
		} else {
			out = append(out, withText(e, "Act.Service", "WEB"), withNumber(e, "Act.Create", -1), withNumber(e, "Act.Seen", 10000000))
		}
		if e.Kind == impl.HallSlip {
			out = append(out, withText(e, "Slip.Door", ""), withNumber(e, "Slip.Given", -1), withText(e, "Slip.Ask.Who", "Ann"))
		}
	}
	return out
}

// A wish for a service comes by no entry of its own, only behind what is asked of the gate.
func TestEntriesWithoutAForm(t *testing.T) {
	for _, e := range unformedEntries(t) {
		wantHallDo(t, "without a form", yardHouse(), hallBooks(), e, codeAlone(2))
	}
	wish := seaEntry(wishOf(impl.StewService{Name: "web", Image: 1, Want: 1, Over: 1}))
	wantHallDo(t, "a wish", yardHouse(), hallBooks(), wish, codeAlone(2))
	ends := actEntry(impl.StewAct{Service: "web", Seen: 53, Ends: firstEnds(100)})
	wantHallDo(t, "too long", yardHouse(), hallBooks(), ends, codeAlone(2))
	other := readEntry(t, "slip 1 d1 3 new:0 ann make new dock fleet 1,2,,,,")
	wantHallDo(t, "another kind", yardHouse(), hallBooks(), withText(other, "Slip.Ask.Kind", "crane"), codeAlone(2))
	other.Slip.Ask.Values = other.Slip.Ask.Values[:5]
	wantHallDo(t, "five values", yardHouse(), hallBooks(), other, codeAlone(2))
}

// With each code but the two that leave nothing the books are b, though half of the entry could be done.
func TestRefusedEntriesLeaveTheBooks(t *testing.T) {
	for _, text := range oneRefused() {
		b := hallBooks()
		got, said := impl.HallDo(yardHouse(), b, readEntry(t, text))
		if said.Code == 0 || !sameHall(got, hallBooks()) || !sameHall(b, hallBooks()) {
			t.Errorf("%s: %+v, %s", text, said, hallTold(got))
		}
	}
}

// atEnds is hallBooks with other Nows.
func atEnds(gate, stew int) impl.HallBook {
	return turnedHall(func(b *impl.HallBook) { b.Gate.Now, b.Stew.Now = gate, stew })
}

// endCase is an entry that needs a version of one of the books, or of both, and what is said at the end of each, and of both.
type endCase struct {
	text                    string
	gateLast, stewLast, all impl.GateSaid
}

func TestWhichNowEndsFirst(t *testing.T) {
	const gateEnd, stewEnd = impl.GateMaxVersion, impl.StewMaxNumber
	gate, stew := impl.GateSaid{Version: gateEnd}, impl.GateSaid{Version: stewEnd}
	for _, c := range []endCase{
		{"slip 1 d1 3 * ann make new dock fleet 1,2,,,,", codeAlone(11), undone(7), codeAlone(11)},
		{"slip 1 d1 3 * ann change web 0 1,2,,,,", codeAlone(11), undone(7), codeAlone(11)},
		{"slip 1 d1 3 * ann end web 0", codeAlone(11), undone(7), codeAlone(11)},
		{"slip 1 d1 3 * ann letgo web tax", codeAlone(11), gate, codeAlone(11)},
		{"slip 1 d1 3 * ann give cyd 1 * * *", codeAlone(11), gate, codeAlone(11)},
		{"slip 1 d1 3 * ann take 1", codeAlone(11), gate, codeAlone(11)},
		{"sweep 1", codeAlone(3), undone(7), codeAlone(3)},
		{"act 1 db 51 0 * * drop", codeAlone(11), undone(7), undone(7)},
		{"act 1 api 50 1 * * *", stew, undone(7), undone(7)},
		{"act 1 web 53 0 3:0 * *", stew, undone(7), undone(7)},
		{"act 1 api 49 1 * * *", undone(4), undone(4), undone(4)},
		{"act 1 old 53 0 * * drop", undone(6), undone(6), undone(6)},
		{"sea 1 tick", stew, undone(7), undone(7)},
		{"sea 1 load web 1", stew, undone(7), undone(7)},
		{"sea 1 raise c", stew, undone(7), undone(7)},
		{"sea 1 sink c", undone(3), undone(7), undone(7)},
	} {
		wantToText(t, atEnds(gateEnd, stewEnd), c.text, c.all)
		wantToText(t, atEnds(gateEnd, stewEnd-1), c.text, c.gateLast)
		wantToText(t, atEnds(gateEnd-1, stewEnd), c.text, c.stewLast)
		// One below both ends all is as ever, and that was the last of it.
		e := readEntry(t, c.text)
		got, said := impl.HallDo(yardHouse(), atEnds(gateEnd-1, stewEnd-1), e)
		_, want := impl.HallDo(yardHouse(), hallBooks(), e)
		if want.Version == hallGateNext {
			want.Version = gateEnd
		} else if want.Version == hallStewNext {
			want.Version = stewEnd
		}
		wantToText(t, atEnds(gateEnd-1, stewEnd-1), c.text, want)
		if said.Code == 0 {
			wantHallOk(t, c.text, yardHouse(), got, true)
		}
	}
}

// A sweep that tells several needs as many versions of both books.
func TestASweepAtTheEndOfTheNows(t *testing.T) {
	const last = impl.GateMaxVersion
	for n := 1; n < 8; n++ {
		at := func(gate, stew int) impl.HallBook {
			b := ownedHall(n)
			b.Gate.Now, b.Stew.Now = gate, stew
			return b
		}
		wantDoneText(t, at(last-n, last-n), "sweep 1", 0)
		for left := range n {
			wantToText(t, at(last-left, last-n), "sweep 1", codeAlone(3))
			wantToText(t, at(last-n, last-left), "sweep 1", undone(7))
			wantToText(t, at(last-left, last-left), "sweep 1", codeAlone(3))
		}
	}
}

// The code of the stewards is told only where the gate has none.
func TestTheGateIsAskedFirst(t *testing.T) {
	last := func() impl.HallBook {
		b := crowdedHall(8, 0)
		b.Stew.Now = impl.StewMaxNumber
		return b
	}
	wantToTexts(t, last(), []hallSaid{
		{"slip 1 d1 3 * ann make new dock fleet 1,2,,,,", undone(7)},
		{"slip 1 d1 3 * ann make new dock fleet 0,2,,,,", impl.GateSaid{Code: 7}},
		{"slip 1 d1 3 new:1 ann make new dock fleet 1,2,,,,", impl.GateSaid{Code: 12, Place: 1}},
		{"slip 1 d1 3 * ann change n100 3 1,2,,,,", impl.GateSaid{Code: 5, Version: 4}},
		{"slip 1 d1 3 * ann end none 0", codeAlone(3)},
		{"slip 1 d1 3 * ann make new dock * 1,2,,,,", codeAlone(15)},
	})
	late := ownedHall(2)
	late.Gate.Now, late.Stew.Now = impl.GateMaxVersion, impl.StewMaxNumber
	wantToText(t, late, "sweep 1", codeAlone(3))
}
