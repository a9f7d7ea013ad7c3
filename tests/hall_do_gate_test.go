package tests

import (
	"slices"
	"testing"

	"loop.example/wharfhall/impl"
)

// wantGateAlone asks that an entry is done, changes the gate's book alone, and gives it no version.
func wantGateAlone(t *testing.T, b impl.HallBook, text string) impl.HallBook {
	t.Helper()
	got := wantDoneText(t, b, text, 0)
	if got.Gate.Now != b.Gate.Now || !sameStewBook(got.Stew, b.Stew) {
		t.Errorf("%s leads from %s to %s", text, hallTold(b), hallTold(got))
	}
	return got
}

func TestDrawnByAnEntry(t *testing.T) {
	b := wantGateAlone(t, hallBooks(), "draw 1 d1 dock copies 7")
	if b.Gate.Ledgers[0].Free != 0 || b.Gate.Purses[0] != purse("d1", "dock", "copies", 16, 15) {
		t.Errorf("%+v", b.Gate)
	}
	b = wantGateAlone(t, hallBooks(), "draw 1 d0 yard service 1")
	if b.Gate.Ledgers[2].Free != 3 || b.Gate.Purses[0] != purse("d0", "yard", "service", 1, 15) {
		t.Errorf("%+v", b.Gate)
	}
	wantToTexts(t, hallBooks(), []hallSaid{
		{"draw 1 d1 mill copies 1", codeAlone(2)},
		{"draw 1 d1 dock tons 1", codeAlone(2)},
		{"draw 1 d1 none copies 1", codeAlone(2)},
		{"draw 1 d1 dock copies 0", codeAlone(2)},
		{"draw 1 d1 dock copies 1000001", codeAlone(2)},
		{"draw 1 d1 dock copies 9999999", codeAlone(2)},
		{"draw 1 d1 dock copies 1000000", codeAlone(3)},
		{"draw 1 d1 dock copies 8", codeAlone(3)},
		{"draw 1 d9 dock copies 8", codeAlone(3)},
	})
}

// pursedHall has as many purses as may be, one more or less; each has 1.
func pursedHall(n int) impl.HallBook {
	return turnedHall(func(b *impl.HallBook) {
		b.Gate.Purses = nil
		for _, door := range names(n) {
			b.Gate.Purses = append(b.Gate.Purses, purse(door, "yard", "copies", 1, 7))
		}
		b.Gate = balanced(impl.HallLaw(yardHouse()), b.Gate)
	})
}

func TestAPurseTooManyForAnEntry(t *testing.T) {
	wantGateAlone(t, pursedHall(23), "draw 1 d1 dock copies 7")
	wantToText(t, pursedHall(24), "draw 1 d1 dock copies 7", codeAlone(4))
	wantToText(t, pursedHall(24), "draw 1 d1 dock copies 8", codeAlone(3))
	wantGateAlone(t, pursedHall(24), "draw 1 n100 yard copies 9")
}

func TestGivenBackByAnEntry(t *testing.T) {
	b := wantGateAlone(t, hallBooks(), "back 1 d1 yard copies")
	if b.Gate.Ledgers[1].Free != 29 || len(b.Gate.Purses) != 3 {
		t.Errorf("%+v", b.Gate)
	}
	wantToText(t, b, "back 1 d1 yard copies", codeAlone(2))
	wantToTexts(t, hallBooks(), []hallSaid{
		{"back 1 d2 dock copies", codeAlone(2)},
		{"back 1 d3 yard copies", codeAlone(2)},
		{"back 1 d1 yard tons", codeAlone(2)},
		{"back 1 d1 none copies", codeAlone(2)},
	})
}

func TestBoundByAnEntry(t *testing.T) {
	used := impl.GateUsed(impl.HallLaw(yardHouse()), hallBooks().Gate, "dock", "copies")
	least := used + 9
	b := wantGateAlone(t, hallBooks(), "bound 1 dock copies "+count(least))
	if b.Gate.Ledgers[0] != ledger("dock", "copies", least, 0) {
		t.Errorf("%+v", b.Gate.Ledgers)
	}
	wantToText(t, hallBooks(), "bound 1 dock copies "+count(least-1), codeAlone(3))
	wantGateAlone(t, hallBooks(), "bound 1 dock copies 1000000")
	b = wantGateAlone(t, hallBooks(), "bound 1 mill copies 1")
	if b.Gate.Ledgers[1] != ledger("mill", "copies", 1, 0) {
		t.Errorf("%+v", b.Gate.Ledgers)
	}
	wantGateAlone(t, hallBooks(), "bound 1 mill tons 0")
	wantToTexts(t, hallBooks(), []hallSaid{
		{"bound 1 mill copies 0", codeAlone(3)},
		{"bound 1 mill service 0", codeAlone(3)},
		{"bound 1 none copies 9", codeAlone(2)},
		{"bound 1 dock copies 1000001", codeAlone(2)},
		{"bound 1 none copies 9999999", codeAlone(2)},
	})
	b = hallBooks()
	for i := range 7 {
		b = wantGateAlone(t, b, "bound 1 mill r"+count(i)+" 5")
	}
	wantToText(t, b, "bound 1 mill r7 5", codeAlone(4))
	wantToText(t, b, "bound 1 mill copies 0", codeAlone(3))
	wantGateAlone(t, b, "bound 1 mill r6 0")
}

func TestATickByAnEntry(t *testing.T) {
	b := wantGateAlone(t, hallBooks(), "time 1")
	if b.Gate.Tick != 6 || len(b.Gate.Purses) != 3 || b.Gate.Ledgers[1].Free != 11 {
		t.Errorf("%+v", b.Gate)
	}
	for range 3 {
		b = wantGateAlone(t, b, "time 1")
	}
	if len(b.Gate.Purses) != 2 {
		t.Errorf("%+v", b.Gate)
	}
	last := turnedHall(func(b *impl.HallBook) {
		b.Gate.Tick, b.Gate.Purses = impl.GateMaxNumber, nil
		b.Gate = balanced(impl.HallLaw(yardHouse()), b.Gate)
	})
	wantToText(t, last, "time 1", codeAlone(2))
	last.Gate.Tick--
	wantGateAlone(t, last, "time 1")
}

// What has no version needs none: at both ends purses are drawn and ledgers bound as ever.
func TestPursesAtTheEndOfTheNows(t *testing.T) {
	b := turnedHall(func(b *impl.HallBook) { b.Gate.Now, b.Stew.Now = impl.GateMaxVersion, impl.StewMaxNumber })
	for _, text := range []string{"draw 1 d1 dock copies 7", "back 1 d1 yard copies", "bound 1 mill copies 5", "time 1"} {
		wantGateAlone(t, b, text)
	}
}

func TestASweepOfTheHall(t *testing.T) {
	b := wantDoneText(t, hallBooks(), "sweep 1", 0)
	if b.Gate.Now != 31 || b.Stew.Now != 61 || objectIn(b, "gone").Name != "" || len(b.Gate.Objects) != 7 {
		t.Errorf("%s", hallTold(b))
	}
	// log is told, and by now stands elsewhere: what is wished for is what log asks for, and nothing else.
	if o := objectIn(b, "log"); !o.Ending || o.Version != 31 || !slices.Equal(o.Holds, []string{"fleet"}) {
		t.Errorf("%+v", o)
	}
	for _, s := range b.Stew.Services {
		was := servedIn(hallBooks(), s.Name)
		if s.Name == "log" {
			was.Gone, was.Version = true, 61
		}
		if s != was {
			t.Errorf("%+v, not %+v", s, was)
		}
	}
	// What log owns is marked by the next sweep, and then there is nothing to do.
	b = wantDoneText(t, b, "sweep 1", 0)
	if b.Gate.Now != 32 || b.Stew.Now != 62 || !servedIn(b, "zip").Gone {
		t.Errorf("%s", hallTold(b))
	}
	wantToText(t, b, "sweep 1", codeAlone(2))
}

func TestASweepWithNothingToDo(t *testing.T) {
	for _, b := range []impl.HallBook{impl.HallFirst(yardHouse()), {}, crowdedHall(8, 0), crowdedHall(8, 32)} {
		wantToText(t, b, "sweep 1", codeAlone(2))
		b.Gate.Now, b.Stew.Now = impl.GateMaxVersion, impl.StewMaxNumber
		wantToText(t, b, "sweep 1", codeAlone(2))
	}
}

// ownedHall has the service n100, which is Ending, and n others that are owned by it.
func ownedHall(n int) impl.HallBook {
	b := crowdedHall(n+1, 0)
	b.Gate.Objects[0].Ending, b.Stew.Services[0].Gone = true, true
	for i := range n {
		b.Gate.Objects[i+1].Values[5] = "n100"
	}
	return b
}

// Each that is told is one change of both books, in their order.
func TestASweepThatTellsSeveral(t *testing.T) {
	for n := range 8 {
		b := ownedHall(n)
		if n == 0 {
			wantToText(t, b, "sweep 1", codeAlone(2))
			continue
		}
		got := wantDoneText(t, b, "sweep 1", 0)
		for i := range n {
			if o, s := got.Gate.Objects[i+1], got.Stew.Services[i+1]; o.Version != 10+i || s.Version != 10+i || !o.Ending || !s.Gone {
				t.Errorf("%d of %d: %+v, %+v", i, n, o, s)
			}
		}
		if got.Gate.Now != 9+n || got.Stew.Now != 9+n {
			t.Errorf("%d: %s", n, hallTold(got))
		}
		wantToText(t, got, "sweep 2", codeAlone(2))
	}
}

// The places of those that are told are others behind the sweep, if something ahead of them goes.
func TestASweepThatTakesOutWhatIsAhead(t *testing.T) {
	for going := range 5 {
		b := ownedHall(3)
		var ahead []impl.GateObject
		for i := range going {
			ahead = append(ahead, ending(madeService("a"+count(i), "dock", "1,2,0,1,,", 2)))
		}
		b.Gate.Objects = append(ahead, b.Gate.Objects...)
		got := wantDoneText(t, b, "sweep 1", 0)
		if len(got.Gate.Objects) != 4 || got.Gate.Now != 12 || got.Stew.Now != 12 {
			t.Errorf("%d: %s", going, hallTold(got))
		}
		for i, s := range got.Stew.Services {
			if !s.Gone || s.Name != names(4)[i] {
				t.Errorf("%d: %+v", going, s)
			}
		}
	}
}

// What goes, and tells nobody, is nothing to the stewards.
func TestASweepThatTellsNobody(t *testing.T) {
	b := crowdedHall(3, 4)
	for i := range 4 {
		b.Gate.Objects[3+i].Holds = nil
	}
	b.Gate.Objects[3].Values[5], b.Gate.Objects[4].Values[5] = b.Gate.Objects[4].Name, b.Gate.Objects[3].Name
	b.Gate.Ledgers = []impl.GateLedger{ledger("dock", "copies", 21, 0), ledger("yard", "service", 9, 2)}
	wantHallOk(t, "before", yardHouse(), b, true)
	got := wantDoneText(t, b, "sweep 1", 0)
	if len(got.Gate.Objects) != 3 || got.Gate.Now != 9 || !sameStewBook(got.Stew, b.Stew) || got.Gate.Ledgers[0].Free != 12 {
		t.Errorf("%s", hallTold(got))
	}
	b.Gate.Now, b.Stew.Now = impl.GateMaxVersion, impl.StewMaxNumber
	got = wantDoneText(t, b, "sweep 1", 0)
	if len(got.Gate.Objects) != 3 || got.Gate.Now != impl.GateMaxVersion || got.Stew.Now != impl.StewMaxNumber {
		t.Errorf("%s", hallTold(got))
	}
}
