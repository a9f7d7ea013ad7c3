package tests

import (
	"math"
	"testing"

	"loop.example/wharfhall/impl"
)

// purseCalls are the four functions, each with arguments that are done in the store's book, by their names.
func purseCalls() map[string]func(l impl.GateLaw, b impl.GateBook) (impl.GateBook, int) {
	return map[string]func(l impl.GateLaw, b impl.GateBook) (impl.GateBook, int){
		"GateDraw": func(l impl.GateLaw, b impl.GateBook) (impl.GateBook, int) {
			return impl.GateDraw(l, b, "d1", "dock", "tons", 4)
		},
		"GateDraw, anew": func(l impl.GateLaw, b impl.GateBook) (impl.GateBook, int) {
			return impl.GateDraw(l, b, "d9", "dock", "tons", 4)
		},
		"GateBack": func(l impl.GateLaw, b impl.GateBook) (impl.GateBook, int) {
			return impl.GateBack(l, b, "d1", "dock", "tons")
		},
		"GateTick": impl.GateTick,
		"GateBound": func(l impl.GateLaw, b impl.GateBook) (impl.GateBook, int) {
			return impl.GateBound(l, b, "dock", "tons", 25)
		},
		"GateBound, anew": func(l impl.GateLaw, b impl.GateBook) (impl.GateBook, int) {
			return impl.GateBound(l, b, "mill", "tons", 25)
		},
	}
}

// refusedCalls are such as are refused in the store's book, by what is wrong with them.
func refusedCalls() map[string]func(l impl.GateLaw, b impl.GateBook) (impl.GateBook, int) {
	return map[string]func(l impl.GateLaw, b impl.GateBook) (impl.GateBook, int){
		"GateDraw, 2": func(l impl.GateLaw, b impl.GateBook) (impl.GateBook, int) {
			return impl.GateDraw(l, b, "d1", "dock", "area", 4)
		},
		"GateDraw, 3": func(l impl.GateLaw, b impl.GateBook) (impl.GateBook, int) {
			return impl.GateDraw(l, b, "d1", "dock", "tons", 11)
		},
		"GateDraw, anew, 3": func(l impl.GateLaw, b impl.GateBook) (impl.GateBook, int) {
			return impl.GateDraw(l, b, "d0", "dock", "tons", 11)
		},
		"GateBack, 2": func(l impl.GateLaw, b impl.GateBook) (impl.GateBook, int) {
			return impl.GateBack(l, b, "d2", "dock", "tons")
		},
		"GateBound, 2": func(l impl.GateLaw, b impl.GateBook) (impl.GateBook, int) {
			return impl.GateBound(l, b, "docks", "tons", 25)
		},
		"GateBound, 3": func(l impl.GateLaw, b impl.GateBook) (impl.GateBook, int) {
			return impl.GateBound(l, b, "dock", "tons", 19)
		},
		"GateBound, anew, 3": func(l impl.GateLaw, b impl.GateBook) (impl.GateBook, int) {
			return impl.GateBound(l, b, "mill", "tons", 7)
		},
	}
}

// wantDone asks for code 0 and a book, which has to be ok.
func wantDone(t *testing.T, what string, l impl.GateLaw, got impl.GateBook, code int, want impl.GateBook) {
	t.Helper()
	if code != 0 || !sameBook(got, want) {
		t.Errorf("%s: %d, %+v,\nnot %+v", what, code, got, want)
	}
	wantBook(t, what, l, got, true)
}

// wantRefused asks for a code and the book as it was.
func wantRefused(t *testing.T, what string, b impl.GateBook, got impl.GateBook, code int, want int) {
	t.Helper()
	if code != want || !sameBook(got, b) {
		t.Errorf("%s: %d, not %d, and %+v,\nnot %+v", what, code, want, got, b)
	}
}

func wantDraw(t *testing.T, b impl.GateBook, p impl.GatePurse, want int) {
	t.Helper()
	got, code := impl.GateDraw(storeLaw(), b, p.Door, p.Team, p.Resource, p.Amount)
	wantRefused(t, "GateDraw", b, got, code, want)
}

func wantBound(t *testing.T, b impl.GateBook, g impl.GateLedger, want int) {
	t.Helper()
	got, code := impl.GateBound(storeLaw(), b, g.Team, g.Resource, g.Most)
	wantRefused(t, "GateBound", b, got, code, want)
}

func TestWhatIsNotOkIsNotDone(t *testing.T) {
	for name, call := range purseCalls() {
		if _, code := call(storeLaw(), storeBook()); code != 0 {
			t.Errorf("%s: %d", name, code)
		}
		for what, b := range wrongBooks() {
			if got, code := call(storeLaw(), b); code != 1 || !sameBook(got, impl.GateBook{}) {
				t.Errorf("%s, %s: %d, %+v", name, what, code, got)
			}
		}
		for what, l := range wrongLaws() {
			if got, code := call(l, impl.GateBook{}); code != 1 || !sameBook(got, impl.GateBook{}) {
				t.Errorf("%s, %s: %d, %+v", name, what, code, got)
			}
		}
	}
}

// Code 1 comes ahead of all others.
func TestWhatIsNotOkIsToldFirst(t *testing.T) {
	l, b := storeLaw(), storeBook()
	b.Ledgers[0].Free++
	for name, call := range refusedCalls() {
		if _, code := call(l, storeBook()); code != int(name[len(name)-1]-'0') {
			t.Errorf("%s: %d", name, code)
		}
		if got, code := call(l, b); code != 1 || !sameBook(got, impl.GateBook{}) {
			t.Errorf("%s: %d, %+v", name, code, got)
		}
	}
	last := impl.GateBook{Tick: impl.GateMaxNumber, Given: 1}
	if got, code := impl.GateTick(l, last); code != 1 || !sameBook(got, impl.GateBook{}) {
		t.Errorf("GateTick: %d, %+v", code, got)
	}
}

func TestDrawOrdinary(t *testing.T) {
	l, want := storeLaw(), storeBook()
	// Until is set anew, of the purse that gets more alone.
	want.Ledgers[0].Free, want.Purses[0] = 6, purse("d1", "dock", "tons", 7, 15)
	got, code := impl.GateDraw(l, storeBook(), "d1", "dock", "tons", 4)
	wantDone(t, "more", l, got, code, want)
	for what, c := range map[string]struct {
		at int
		p  impl.GatePurse
	}{
		"ahead of all":      {0, purse("d0", "dock", "tons", 1, 15)},
		"by the door":       {2, purse("d10", "dock", "tons", 10, 15)},
		"by the team":       {1, purse("d1", "mill", "area", 97, 15)},
		"by the resource":   {2, purse("d1", "yard", "pier", 9, 15)},
		"behind all":        {3, purse("d3", "dock", "tons", 10, 15)},
		"behind its door's": {3, purse("d2", "yard", "pier", 1, 15)},
	} {
		b, want := storeBook(), storeBook()
		for i, g := range want.Ledgers {
			if g.Team == c.p.Team && g.Resource == c.p.Resource {
				want.Ledgers[i].Free -= c.p.Amount
			}
		}
		want.Purses = append(append(append([]impl.GatePurse{}, b.Purses[:c.at]...), c.p), b.Purses[c.at:]...)
		got, code := impl.GateDraw(l, b, c.p.Door, c.p.Team, c.p.Resource, c.p.Amount)
		wantDone(t, what, l, got, code, want)
	}
}

func TestDrawOfAllThatIsFree(t *testing.T) {
	l, want := storeLaw(), storeBook()
	want.Ledgers[0].Free, want.Purses[0] = 0, purse("d1", "dock", "tons", 13, 15)
	got, code := impl.GateDraw(l, storeBook(), "d1", "dock", "tons", 10)
	wantDone(t, "all", l, got, code, want)
	wantDraw(t, storeBook(), purse("d1", "dock", "tons", 11, 0), 3)
	wantDraw(t, storeBook(), purse("d7", "dock", "tons", 11, 0), 3)
	wantDraw(t, storeBook(), purse("d1", "gang", "tons", 1, 0), 3)
	wantDraw(t, storeBook(), purse("d1", "yard", "crate", impl.GateMaxNumber, 0), 3)
	most := bareBook()
	most.Ledgers = []impl.GateLedger{ledger("dock", "tons", impl.GateMaxNumber, impl.GateMaxNumber)}
	got, code = impl.GateDraw(l, most, "d", "dock", "tons", impl.GateMaxNumber)
	most.Ledgers[0].Free, most.Purses = 0, []impl.GatePurse{purse("d", "dock", "tons", impl.GateMaxNumber, 10)}
	wantDone(t, "the most", l, got, code, most)
	wantDraw(t, most, purse("d", "dock", "tons", 1, 0), 3)
}

func TestDrawOfWhatIsNone(t *testing.T) {
	for _, s := range notNames() {
		wantDraw(t, storeBook(), purse(s, "dock", "tons", 1, 0), 2)
		wantDraw(t, storeBook(), purse("d1", s, "tons", 1, 0), 2)
		wantDraw(t, storeBook(), purse("d1", "dock", s, 1, 0), 2)
	}
	wantDraw(t, storeBook(), purse("d1", "shed", "tons", 1, 0), 2)
	wantDraw(t, storeBook(), purse("d1", "dock", "crate", 1, 0), 2)
	wantDraw(t, storeBook(), purse("d1", "tons", "dock", 1, 0), 2)
	wantDraw(t, bareBook(), purse("d1", "dock", "tons", 1, 0), 2)
	for _, amount := range []int{0, -1, impl.GateMaxNumber + 1, math.MaxInt, math.MinInt} {
		wantDraw(t, storeBook(), purse("d1", "dock", "tons", amount, 0), 2)
		wantDraw(t, storeBook(), purse("d9", "gang", "tons", amount, 0), 2)
	}
}

func TestDrawAtTheLastTick(t *testing.T) {
	l, b := storeLaw(), manyPurses(1)
	b.Tick, b.Purses[0].Until = impl.GateMaxNumber, impl.GateMaxNumber
	want := bookCopy(b)
	want.Ledgers[0].Free--
	want.Purses[0].Amount, want.Purses[0].Until = 3, impl.GateMaxNumber+impl.GatePurseLife
	got, code := impl.GateDraw(l, b, b.Purses[0].Door, "dock", "tons", 1)
	wantDone(t, "the last tick", l, got, code, want)
}

func TestDrawOfOnePurseTooMany(t *testing.T) {
	l, b := storeLaw(), manyPurses(impl.GateMaxPurses-1)
	b, code := impl.GateDraw(l, b, "x", "dock", "tons", 1)
	want := manyPurses(impl.GateMaxPurses - 1)
	want.Ledgers[0].Free--
	want.Purses = append(want.Purses, purse("x", "dock", "tons", 1, 10))
	wantDone(t, "the last purse", l, b, code, want)
	for _, door := range []string{"a", "n1000", "y"} {
		wantDraw(t, b, purse(door, "dock", "tons", 1, 0), 4)
		// All that is free is not too much: the room is.
		wantDraw(t, b, purse(door, "dock", "tons", b.Ledgers[0].Free, 0), 4)
		wantDraw(t, b, purse(door, "dock", "tons", b.Ledgers[0].Free+1, 0), 3)
		wantDraw(t, b, purse(door, "dock", "area", 1, 0), 2)
	}
	want.Ledgers[0].Free--
	want.Purses[impl.GateMaxPurses-1].Amount++
	got, code := impl.GateDraw(l, b, "x", "dock", "tons", 1)
	wantDone(t, "more in the last purse", l, got, code, want)
}

func TestBack(t *testing.T) {
	l := storeLaw()
	for i, p := range storeBook().Purses {
		want := storeBook()
		for j, g := range want.Ledgers {
			if g.Team == p.Team && g.Resource == p.Resource {
				want.Ledgers[j].Free += p.Amount
			}
		}
		want.Purses = append(want.Purses[:i], want.Purses[i+1:]...)
		got, code := impl.GateBack(l, storeBook(), p.Door, p.Team, p.Resource)
		wantDone(t, "back "+count(i), l, got, code, want)
		again, code := impl.GateBack(l, got, p.Door, p.Team, p.Resource)
		wantRefused(t, "back again", got, again, code, 2)
	}
}

func TestBackOfNone(t *testing.T) {
	l, b := storeLaw(), storeBook()
	for _, p := range append([]impl.GatePurse{
		purse("d2", "dock", "tons", 0, 0), purse("d3", "yard", "crate", 0, 0), purse("d1", "yard", "pier", 0, 0),
		purse("d1", "gang", "tons", 0, 0), purse("d1", "dock", "crate", 0, 0), purse("dock", "d1", "tons", 0, 0),
	}, purse("", "", "", 0, 0)) {
		got, code := impl.GateBack(l, b, p.Door, p.Team, p.Resource)
		wantRefused(t, "no purse", b, got, code, 2)
	}
	for _, s := range notNames() {
		for _, p := range []impl.GatePurse{purse(s, "dock", "tons", 0, 0), purse("d1", s, "tons", 0, 0), purse("d1", "dock", s, 0, 0)} {
			got, code := impl.GateBack(l, b, p.Door, p.Team, p.Resource)
			wantRefused(t, "no name", b, got, code, 2)
		}
	}
}

func TestTick(t *testing.T) {
	l, want := storeLaw(), storeBook()
	// The Tick becomes 6: the purse that lasts until 5 goes back.
	want.Tick, want.Ledgers[0].Free = 6, 13
	want.Purses = want.Purses[1:]
	got, code := impl.GateTick(l, storeBook())
	wantDone(t, "the first goes back", l, got, code, want)
	for want.Tick < 9 {
		want.Tick++
		got, code = impl.GateTick(l, got)
		wantDone(t, "none goes back", l, got, code, want)
	}
	want.Tick, want.Ledgers[3].Free = 10, 2
	want.Purses = want.Purses[:1]
	got, code = impl.GateTick(l, got)
	wantDone(t, "the second goes back", l, got, code, want)
	none, code := impl.GateTick(l, bareBook())
	bare := bareBook()
	bare.Tick = 1
	wantDone(t, "no purse", l, none, code, bare)
}

// Just the new Tick lasts, one below it does not; many go back at once, of one ledger and of several.
func TestTickOfManyPurses(t *testing.T) {
	l, b := storeLaw(), manyPurses(impl.GateMaxPurses)
	b.Tick = 3
	b.Ledgers = append(b.Ledgers, ledger("gang", "tons", 100, 100-3))
	b.Purses[1].Team, b.Purses[1].Amount = "gang", 3
	b.Ledgers[0].Free += 2
	for i := range b.Purses {
		b.Purses[i].Until = 3 + i%2
	}
	want := bookCopy(b)
	want.Tick, want.Purses = 4, nil
	for _, p := range b.Purses {
		if p.Until == 4 {
			want.Purses = append(want.Purses, p)
		}
	}
	want.Ledgers[0].Free += 2 * impl.GateMaxPurses / 2
	got, code := impl.GateTick(l, b)
	wantDone(t, "every other one", l, got, code, want)
	want = bookCopy(b)
	want.Tick, want.Purses = 5, nil
	want.Ledgers[0].Free, want.Ledgers[1].Free = 100, 100
	got, code = impl.GateTick(l, got)
	wantDone(t, "all others", l, got, code, want)
}

func TestTickAtItsEnd(t *testing.T) {
	l, b := storeLaw(), manyPurses(2)
	b.Tick = impl.GateMaxNumber - 1
	b.Purses[0].Until, b.Purses[1].Until = impl.GateMaxNumber-1, impl.GateMaxNumber
	want := bookCopy(b)
	want.Tick, want.Purses, want.Ledgers[0].Free = impl.GateMaxNumber, want.Purses[1:], 98
	got, code := impl.GateTick(l, b)
	wantDone(t, "the last tick", l, got, code, want)
	again, code := impl.GateTick(l, got)
	wantRefused(t, "behind the last tick", got, again, code, 2)
}

func TestBoundOrdinary(t *testing.T) {
	l := storeLaw()
	for what, c := range map[string]struct {
		at int
		g  impl.GateLedger
	}{
		"as it is":               {0, ledger("dock", "tons", 30, 10)},
		"raised":                 {0, ledger("dock", "tons", 31, 11)},
		"raised to the end":      {0, ledger("dock", "tons", impl.GateMaxNumber, impl.GateMaxNumber-20)},
		"lowered":                {0, ledger("dock", "tons", 21, 1)},
		"lowered to what is out": {0, ledger("dock", "tons", 20, 0)},
		"raised from no room":    {1, ledger("gang", "tons", 13, 1)},
		"drawn and used":         {3, ledger("yard", "crate", 10, 1)},
		"the last one":           {4, ledger("yard", "pier", 11, 0)},
	} {
		want := storeBook()
		want.Ledgers[c.at] = c.g
		got, code := impl.GateBound(l, storeBook(), c.g.Team, c.g.Resource, c.g.Most)
		wantDone(t, what, l, got, code, want)
	}
	wantBound(t, storeBook(), ledger("dock", "tons", 19, 0), 3)
	wantBound(t, storeBook(), ledger("dock", "tons", 0, 0), 3)
	wantBound(t, storeBook(), ledger("gang", "tons", 11, 0), 3)
	wantBound(t, storeBook(), ledger("yard", "crate", 8, 0), 3)
}

func TestBoundOfANewLedger(t *testing.T) {
	l := storeLaw()
	for what, c := range map[string]struct {
		at int
		g  impl.GateLedger
	}{
		"ahead of all":              {0, ledger("dock", "crate", 5, 3)},
		"behind its team's":         {1, ledger("dock", "wood", 7, 7)},
		"over those of teams under": {3, ledger("yard", "area", 40, 31)},
		"of all that is used":       {5, ledger("yard", "tons", 17, 0)},
		"of nothing":                {3, ledger("shed", "tons", 0, 0)},
		"by its kind":               {3, ledger("shed", "stone", 1, 0)},
		"between two":               {4, ledger("yard", "oil", impl.GateMaxNumber, impl.GateMaxNumber)},
		"of its own team alone":     {1, ledger("gang", "crate", 2, 1)},
	} {
		b, want := storeBook(), storeBook()
		want.Ledgers = append(append(append([]impl.GateLedger{}, b.Ledgers[:c.at]...), c.g), b.Ledgers[c.at:]...)
		got, code := impl.GateBound(l, b, c.g.Team, c.g.Resource, c.g.Most)
		wantDone(t, what, l, got, code, want)
	}
	wantBound(t, storeBook(), ledger("dock", "crate", 1, 0), 3)
	wantBound(t, storeBook(), ledger("yard", "tons", 16, 0), 3)
	wantBound(t, storeBook(), ledger("shed", "stone", 0, 0), 3)
}

func TestBoundOfOneLedgerTooMany(t *testing.T) {
	l, b := storeLaw(), bareBook()
	b.Ledgers, b.Objects = manyLedgers(impl.GateMaxLedgers-1), manyStones(3)
	want := bookCopy(b)
	want.Ledgers = append(want.Ledgers, ledger("dock", "x", 4, 4))
	got, code := impl.GateBound(l, b, "dock", "x", 4)
	wantDone(t, "the last ledger", l, got, code, want)
	wantBound(t, got, ledger("dock", "y", 4, 0), 4)
	wantBound(t, got, ledger("dock", "a", 0, 0), 4)
	// What two codes would do is told by the first of them.
	wantBound(t, got, ledger("dock", "stone", 2, 0), 3)
	wantBound(t, got, ledger("dock", "stone", 3, 0), 4)
	wantBound(t, got, ledger("none", "stone", 2, 0), 2)
	want.Ledgers[impl.GateMaxLedgers-1] = ledger("dock", "x", 0, 0)
	again, code := impl.GateBound(l, got, "dock", "x", 0)
	wantDone(t, "one that is there", l, again, code, want)
}

func TestBoundOfWhatIsNone(t *testing.T) {
	for _, s := range notNames() {
		wantBound(t, storeBook(), ledger(s, "tons", 50, 0), 2)
		wantBound(t, storeBook(), ledger("dock", s, 50, 0), 2)
	}
	wantBound(t, storeBook(), ledger("docks", "tons", 50, 0), 2)
	wantBound(t, storeBook(), ledger("doc", "tons", 50, 0), 2)
	for _, most := range []int{-1, impl.GateMaxNumber + 1, math.MaxInt, math.MinInt} {
		wantBound(t, storeBook(), ledger("dock", "tons", most, 0), 2)
		wantBound(t, storeBook(), ledger("dock", "crate", most, 0), 2)
		wantBound(t, storeBook(), ledger("gang", "tons", most, 0), 2)
	}
}
