package tests

import (
	"slices"
	"testing"

	"loop.example/wharfhall/impl"
)

// wantStewAlone asks that an entry is done and changes the stewards' book alone, by one change.
func wantStewAlone(t *testing.T, b impl.HallBook, text string) impl.HallBook {
	t.Helper()
	got := wantDoneText(t, b, text, b.Stew.Now+1)
	if got.Stew.Now != b.Stew.Now+1 || !sameBook(got.Gate, b.Gate) {
		t.Errorf("%s leads from %s to %s", text, hallTold(b), hallTold(got))
	}
	return got
}

func TestActsOfTheHall(t *testing.T) {
	b := wantStewAlone(t, hallBooks(), "act 1 api 50 1 * * *")
	if at := copyPlaceByHand(b.Stew, "api", 4); at < 0 || b.Stew.Copies[at].State != impl.StewWaiting || servedIn(b, "api").Version != hallStewNext {
		t.Errorf("%s", hallTold(b))
	}
	b = wantStewAlone(t, hallBooks(), "act 1 web 53 1 5:3 2:12,5:15 *")
	if s := servedIn(b, "web"); s.Want != 5 || s.Cool != 3 || s.Next != 10 || !b.Stew.Copies[copyPlaceByHand(b.Stew, "web", 2)].Ending {
		t.Errorf("%s", hallTold(b))
	}
	for _, text := range []string{
		"act 1 web 53 0 0:0 * *", "act 1 web 53 0 6:0 * *", "act 1 web 53 0 3:2 * *", "act 1 web 53 3 * * *", "act 1 web 53 0 * 1:11 *",
		"act 1 zip 54 3 * * *", "act 1 old 53 0 * 2:23 *", "act 1 db 51 0 * * *", "act 1 log 52 0 * 1:22 *",
	} {
		wantStewAlone(t, hallBooks(), text)
	}
}

// The code of StewApply is told as the Place.
func TestActsThatAreNotDone(t *testing.T) {
	wantToTexts(t, hallBooks(), []hallSaid{
		{"act 1 api 50 21 * * *", undone(2)},
		{"act 1 web 53 0 11:0 * *", undone(2)},
		{"act 1 web 53 0 3:4 * *", undone(2)},
		{"act 1 web 53 0 * 2:12,1:11 *", undone(2)},
		{"act 1 db 51 1 * * drop", undone(2)},
		{"act 1 db 51 0 0:0 * drop", undone(2)},
		{"act 1 db 51 0 * 1:1 drop", undone(2)},
		{"act 1 none 50 1 * * *", undone(3)},
		{"act 1 gone 13 0 * * drop", undone(3)},
		{"act 1 late 14 0 * * drop", undone(3)},
		{"act 1 api 50 0 * 2:20 *", undone(3)},
		{"act 1 api 49 1 * * *", undone(4)},
		{"act 1 api 51 1 * * *", undone(4)},
		{"act 1 api 10 1 * * *", undone(4)},
		{"act 1 db 12 0 * * drop", undone(4)},
		{"act 1 api 50 0 * 1:21 *", undone(4)},
		{"act 1 api 50 0 * 1:20 *", undone(5)},
		{"act 1 web 53 0 * 1:11,2:12 *", undone(5)},
		{"act 1 web 53 0 * 8:18 *", undone(5)},
		{"act 1 api 50 2 * * *", undone(6)},
		{"act 1 web 53 4 * * *", undone(6)},
		{"act 1 db 51 1 * * *", undone(6)},
		{"act 1 web 53 0 7:0 * *", undone(6)},
		{"act 1 api 50 0 2:0 * *", undone(6)},
		{"act 1 api 50 0 * * drop", undone(6)},
		{"act 1 old 53 0 * * drop", undone(6)},
		{"act 1 zip 54 0 * * drop", undone(6)},
	})
	full := turnedHall(func(b *impl.HallBook) { b.Stew.Services[servedZip].Next = impl.StewMaxNumber - 1 })
	wantStewAlone(t, full, "act 1 zip 54 1 * * *")
	wantToText(t, full, "act 1 zip 54 2 * * *", undone(7))
}

// With Drop the object has the hall's hold no longer: both books change, each by one.
func TestADropOfTheHall(t *testing.T) {
	for _, held := range [][]string{{"fleet"}, {"audit", "fleet"}, {"fleet", "tax"}, {"audit", "fleet", "tax"}, {"f", "fleet", "fleets"}} {
		b := turnedHall(func(b *impl.HallBook) { b.Gate.Objects[1].Holds = held })
		got := wantDoneText(t, b, "act 1 db 51 0 * * drop", hallStewNext)
		want := bookCopy(b.Gate)
		want.Now, want.Objects[1].Version = hallGateNext, hallGateNext
		want.Objects[1].Holds = slices.DeleteFunc(slices.Clone(held), func(hold string) bool { return hold == "fleet" })
		if !sameBook(got.Gate, want) || servedIn(got, "db").Name != "" || got.Stew.Now != hallStewNext || len(got.Stew.Services) != 5 {
			t.Errorf("%v: %s", held, hallTold(got))
		}
		wantToText(t, got, "act 1 db 51 0 * * drop", undone(3))
	}
}

func TestTheSeaOfTheHall(t *testing.T) {
	for _, text := range []string{
		"sea 1 tick", "sea 1 fails api 1", "sea 1 fails log 1", "sea 1 sink a", "sea 1 sink b", "sea 1 raise a", "sea 1 drain a",
		"sea 1 raise c", "sea 1 drain " + long(16), "sea 1 load web 0", "sea 1 load web 1000000",
	} {
		wantStewAlone(t, hallBooks(), text)
	}
	b := wantStewAlone(t, hallBooks(), "sea 1 load web 999")
	if s := servedIn(b, "web"); s.Load != 999 || s.Version != hallStewNext || s.Cool != 2 {
		t.Errorf("%+v", s)
	}
	b = wantStewAlone(t, hallBooks(), "sea 1 drain c")
	if !slices.Equal(b.Stew.Berths, []impl.StewBerth{{Name: "a"}, {Name: "b", Drain: true}, {Name: "c", Drain: true}}) {
		t.Errorf("%+v", b.Stew.Berths)
	}
	wantToTexts(t, hallBooks(), []hallSaid{
		{"sea 1 load web 1000001", undone(2)},
		{"sea 1 fails api 2", undone(3)},
		{"sea 1 fails none 1", undone(3)},
		{"sea 1 fails web 5", undone(3)},
		{"sea 1 fails web 8", undone(3)},
		{"sea 1 sink c", undone(3)},
		{"sea 1 load api 5", undone(3)},
		{"sea 1 load none 5", undone(3)},
		{"sea 1 load gone 5", undone(3)},
	})
	b = hallBooks()
	for _, name := range []string{"c", "d", "e", "f"} {
		b = wantStewAlone(t, b, "sea 1 raise "+name)
	}
	wantToText(t, b, "sea 1 raise g", undone(2))
	wantToText(t, b, "sea 1 drain 0", undone(2))
	wantStewAlone(t, b, "sea 1 drain f")
}

// An event of the sea in books with nothing in them.
func TestTheSeaAtFirst(t *testing.T) {
	wantToTexts(t, impl.HallFirst(yardHouse()), []hallSaid{
		{"sea 1 tick", impl.GateSaid{Version: 1}},
		{"sea 1 raise a", impl.GateSaid{Version: 1}},
		{"sea 1 sink a", undone(3)},
		{"sea 1 load web 1", undone(3)},
		{"sea 1 fails web 1", undone(3)},
		{"act 1 web 1 0 * * *", undone(3)},
		{"act 1 web 1 0 * * drop", undone(3)},
		{"sweep 1", codeAlone(2)},
		{"time 1", impl.GateSaid{}},
		{"slip 1 d 3 web:0 ann make web dock fleet 1,1,,,,", impl.GateSaid{Version: 4}},
	})
}

// From the first bound to the last sweep: what a service weighs is free no sooner than its last copy is gone, though it
// was ended long before, and whoever asks for more meanwhile gets nothing.
func TestAnEndIsHeldUntilTheLastCopyIsGone(t *testing.T) {
	b := impl.HallFirst(yardHouse())
	more := func(said impl.GateSaid) { wantToText(t, b, "slip 9 d1 3 new:0 ann make new gang fleet 1,4,,,,", said) }
	do := func(text string, version int) { b = wantDoneText(t, b, text, version) }
	wantFree := func(free int) {
		t.Helper()
		if b.Gate.Ledgers[0].Free != free {
			t.Errorf("%d are free, not %d: %+v", b.Gate.Ledgers[0].Free, free, b.Gate)
		}
	}
	do("sea 1 raise a", 1)
	do("bound 1 dock copies 5", 0)
	do("draw 1 d1 dock copies 5", 0)
	do("slip 1 d1 3 web:0 ann make web dock audit,fleet 1,4,1,1,,", 4)
	do("act 1 web 2 4 * * *", 3)
	do("sea 2 tick", 4)
	do("sea 3 tick", 5)
	more(impl.GateSaid{Code: 10})
	do("slip 2 d1 3 web:4 ann end web 4", 5)
	wantToText(t, b, "sweep 1", codeAlone(2))
	do("slip 3 d1 3 web:5 ann letgo web audit", 6)
	wantToText(t, b, "sweep 1", codeAlone(2))
	do("act 2 web 6 0 * 1:5,2:5,3:5 *", 7)
	do("sea 4 tick", 8)
	wantToText(t, b, "act 3 web 7 0 * * drop", undone(6))
	wantToText(t, b, "sweep 1", codeAlone(2))
	do("act 4 web 7 0 * 4:5 *", 9)
	wantToText(t, b, "act 5 web 9 0 * * drop", undone(6))
	do("sea 5 tick", 10)
	wantToText(t, b, "sweep 1", codeAlone(2))
	wantFree(0)
	do("act 6 web 9 0 * * drop", 11)
	wantFree(0)
	more(impl.GateSaid{Code: 10})
	do("sweep 1", 0)
	wantFree(5)
	do("draw 2 d1 dock copies 5", 0)
	more(impl.GateSaid{Version: 8})
}

// A copy that is ready ends by an act only where enough others are ready, whoever asks; what is Gone may end whole.
func TestNoActOfTheHallHarms(t *testing.T) {
	b := turnedHall(func(b *impl.HallBook) { b.Stew.Copies[6].State, b.Stew.Copies[6].Berth = impl.StewReady, "a" })
	// Of web three are wanted and ready, and two may be down.
	wantStewAlone(t, b, "act 1 web 53 0 * 1:11 *")
	wantStewAlone(t, b, "act 1 web 53 0 * 1:11,2:12 *")
	wantToText(t, b, "act 1 web 53 0 * 1:11,2:12,5:15 *", undone(5))
	// Less that is asked for counts only for the acts behind it.
	wantToText(t, b, "act 1 web 53 0 0:0 1:11,2:12,5:15 *", undone(5))
	less := wantStewAlone(t, b, "act 1 web 53 0 0:0 * *")
	wantStewAlone(t, less, "act 1 web 61 0 * 1:11,2:12,5:15 *")
	gone := wantDoneText(t, b, "slip 1 d1 3 * ann end web 0", hallGateNext)
	wantStewAlone(t, gone, "act 1 web 61 0 * 1:11,2:12,5:15 *")
	// A change that lets none be down holds back what was asked for ahead of it.
	strict := wantDoneText(t, b, "slip 1 d1 3 * ann change web 0 4,6,0,3,100,", hallGateNext)
	wantToText(t, strict, "act 1 web 53 0 * 1:11 *", undone(4))
	wantToText(t, strict, "act 1 web 61 0 * 1:11 *", undone(5))
}

// No act creates more than an object's most and over, and none that follows its load is scaled above its most.
func TestNoActOfTheHallCreatesTooMany(t *testing.T) {
	for n := range 8 {
		said := undone(6)
		if n <= 3 {
			said = impl.GateSaid{Version: hallStewNext}
		}
		wantToText(t, hallBooks(), "act 1 web 53 "+count(n)+" * * *", said)
		said = undone(6)
		if n <= 6 {
			said = impl.GateSaid{Version: hallStewNext}
		}
		wantToText(t, hallBooks(), "act 1 web 53 0 "+count(n)+":0 * *", said)
	}
	wantStewAlone(t, hallBooks(), "act 1 web 53 6 6:0 * *")
	wantToText(t, hallBooks(), "act 1 web 53 7 6:0 * *", undone(6))
	// Whatever load there is, it asks for no more than the object's most.
	b := wantStewAlone(t, hallBooks(), "sea 1 load web 1000000")
	acts := impl.StewAsk(impl.StewScaler, b.Stew)
	if len(acts) != 1 || acts[0].Want != 6 {
		t.Errorf("%+v", acts)
	}
}
