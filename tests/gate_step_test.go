package tests

import (
	"slices"
	"testing"

	"loop.example/wharfhall/impl"
)

func TestADoorLooks(t *testing.T) {
	for _, at := range []int{busyDoor, lateDoor} {
		w := goodWorld()
		wantDoneStep(t, "door "+count(at), w, impl.GateEvent{Kind: impl.GateLook, Door: at}, func(w *impl.GateWorld) { w.Doors[at].View = w.Book })
	}
	empty := impl.GateWorld{Book: impl.GateBook{Now: 3}, Doors: manyDoors(impl.GateMaxDoors)}
	wantDoneStep(t, "the last door", empty, impl.GateEvent{Kind: impl.GateLook, Door: impl.GateMaxDoors - 1}, func(w *impl.GateWorld) { w.Doors[3].View.Now = 3 })
}

// A slip is put behind those that the door has; the Book stays, whatever the ask is.
func TestADoorAsks(t *testing.T) {
	for what, a := range goodAsks() {
		e := impl.GateEvent{Kind: impl.GateAsks, Door: busyDoor, Ask: a}
		behind := func(w *impl.GateWorld) { w.Doors[0].Slips = append(w.Doors[0].Slips, goodSlips()[what]) }
		wantDoneStep(t, what, passWorld(), e, behind)
		wantDoneStep(t, what+", of another book", goodWorld(), e, behind)
		alone := passWorld()
		alone.Doors[0].Slips = nil
		wantDoneStep(t, what+", alone", alone, e, behind)
		last := passWorld()
		last.Doors[0].Slips = slipRow("take", "take", "take", "take", "make")
		wantDoneStep(t, what+", the last that has room", last, e, behind)
	}
}

// The View is asked, not the Book, and the slip has the name of the door.
func TestADoorAsksItsView(t *testing.T) {
	w := passWorld()
	asks := func(a impl.GateAsk) impl.GateEvent {
		return impl.GateEvent{Kind: impl.GateAsks, Door: lateDoor, Ask: a}
	}
	wantSame(t, "what the View has not", passLaw(), w, asks(askEnd("barge", "a")), 3)
	wantSame(t, "who has a right in the Book alone", passLaw(), w, asks(byWho(askMake("barge", "bz", "dock", "1", "1", "", "", "", ""), "bob")), 4)
	made := asks(askMake("barge", "a", "dock", "1", "1", "", "", "", ""))
	wantDoneStep(t, "what the Book has already", w, made, func(w *impl.GateWorld) {
		w.Doors[1].Slips = []impl.GateSlip{{Door: "k", Ask: made.Ask, Given: 1, Wants: []impl.GateWant{wanted("barge", "a", 0)}}}
	})
	// A slip of an older view is late, and is gone nevertheless.
	w, _ = impl.GateStep(passLaw(), w, made)
	wantStep(t, "committed", passLaw(), w, impl.GateEvent{Kind: impl.GateCommits, Door: lateDoor}, lateAt(0), func(w *impl.GateWorld) { w.Doors[1].Slips = nil })
}

// Each answer of GateSlipOf is handed on, with its Place and its Version; there is no slip beside it.
func TestWhatAViewSaysIsHandedOn(t *testing.T) {
	seen := map[int]int{}
	for what, f := range codeCases() {
		for part := range 1 << len(f.faults) {
			c, want := f.spoiled(part, func(code int) bool { return code != 10 })
			if want.Code == 1 {
				continue
			}
			seen[want.Code]++
			w := passWorld()
			w.Book.Now, w.Doors[0].View = impl.GateMaxVersion, c.book
			e := impl.GateEvent{Kind: impl.GateAsks, Door: busyDoor, Ask: c.ask}
			got, said := impl.GateStep(passLaw(), w, e)
			left := turned(w, func(w *impl.GateWorld) {
				if slip, said := impl.GateSlipOf(passLaw(), c.book, "d", c.ask); said.Code == 0 {
					w.Doors[0].Slips = append(w.Doors[0].Slips, slip)
				}
			})
			if said != want || !sameWorld(got, left) {
				t.Errorf("%s, faults %b: %+v, not %+v, and %+v", what, part, said, want, got)
			}
		}
	}
	for _, code := range []int{0, 2, 3, 4, 5, 6, 7, 8, 9, 11} {
		if seen[code] == 0 {
			t.Errorf("code %d was never told: %v", code, seen)
		}
	}
}

// Of the slips the one At is committed to the Book; the others stay in their order.
func TestADoorCommits(t *testing.T) {
	row := []string{"make", "change", "end", "let go", "give", "take"}
	for at, what := range row {
		w := passWorld()
		w.Doors[0].Slips = slipRow(row...)
		book, said := commitByHand(passLaw(), w.Book, goodSlips()[what])
		if said != (impl.GateSaid{Version: 21}) {
			t.Fatalf("%s: %+v", what, said)
		}
		wantStep(t, what, passLaw(), w, impl.GateEvent{Kind: impl.GateCommits, Door: busyDoor, At: at}, said, func(w *impl.GateWorld) {
			w.Book = book
			w.Doors[0].Slips = slices.Delete(slices.Clone(w.Doors[0].Slips), at, at+1)
		})
		w.Doors[0].Slips = slipRow(what)
		wantStep(t, what+", alone", passLaw(), w, impl.GateEvent{Kind: impl.GateCommits, Door: busyDoor}, said, func(w *impl.GateWorld) {
			w.Book, w.Doors[0].Slips = book, nil
		})
	}
}

// Each answer of GateCommit is handed on; the slip is gone, and the Book is as it was.
func TestWhatTheBookSaysIsHandedOn(t *testing.T) {
	t.Parallel()
	seen := map[int]int{}
	commit := func(what string, b impl.GateBook, s impl.GateSlip, want impl.GateSaid) {
		seen[want.Code]++
		w := passWorld()
		b.Now = max(b.Now, 20)
		w.Book, w.Doors[0].Slips = b, []impl.GateSlip{goodSlips()["take"], s, goodSlips()["end"]}
		book, _ := impl.GateCommit(passLaw(), b, s)
		got, said := impl.GateStep(passLaw(), w, impl.GateEvent{Kind: impl.GateCommits, Door: busyDoor, At: 1})
		left := turned(w, func(w *impl.GateWorld) {
			w.Doors[0].Slips = slipRow("take", "end")
			if want.Code == 0 {
				w.Book = book
			}
		})
		if said != want || !sameWorld(got, left) {
			t.Errorf("%s: %+v, not %+v, and %+v", what, said, want, got)
		}
	}
	for what, f := range codeCases() {
		for part := range 1 << len(f.faults) {
			c, want := f.spoiled(part, anyCode)
			if want.Code == 1 || want.Code == 2 {
				continue
			}
			if want.Code == 0 {
				want.Version = c.book.Now + 1
			}
			s := impl.GateSlip{Door: "d", Ask: c.ask, Given: c.book.Given}
			commit(what+", faults "+count(part), c.book, s, want)
			s.Wants = append(manyWants(2), notSo())
			commit(what+", late, faults "+count(part), c.book, s, lateAt(3))
			s.Given++
			commit(what+", later, faults "+count(part), c.book, s, lateAt(0))
		}
	}
	for _, code := range []int{0, 3, 4, 5, 6, 7, 8, 9, 10, 11, 12} {
		if seen[code] == 0 {
			t.Errorf("code %d was never told: %v", code, seen)
		}
	}
}

func TestADoorLosesASlip(t *testing.T) {
	for at := range 4 {
		wantDoneStep(t, "slip "+count(at), passWorld(), impl.GateEvent{Kind: impl.GateLoses, Door: busyDoor, At: at}, func(w *impl.GateWorld) {
			w.Doors[0].Slips = slices.Delete(slices.Clone(w.Doors[0].Slips), at, at+1)
		})
	}
	full := turned(passWorld(), func(w *impl.GateWorld) {
		w.Doors[0].Slips = slipRow("make", "make", "change", "end", "let go", "take")
	})
	wantDoneStep(t, "the last of many", full, impl.GateEvent{Kind: impl.GateLoses, Door: busyDoor, At: 5}, func(w *impl.GateWorld) {
		w.Doors[0].Slips = w.Doors[0].Slips[:5]
	})
}

// Each code of a purse's call is handed on alone; where it is not 0 the Book is as it was.
func TestWhatPursesAnswerIsHandedOn(t *testing.T) {
	full := passWorld()
	full.Book.Purses = nil
	for _, name := range names(impl.GateMaxPurses) {
		full.Book.Purses = append(full.Book.Purses, purse(name, "dock", "tons", 1, 9))
	}
	full.Book = balanced(passLaw(), full.Book)
	bound := passWorld()
	bound.Book.Ledgers, bound.Book.Purses = manyLedgers(impl.GateMaxLedgers), nil
	old := passWorld()
	old.Book.Tick, old.Book.Purses = impl.GateMaxNumber, nil
	old.Book = balanced(passLaw(), old.Book)
	for what, c := range map[string]struct {
		w    impl.GateWorld
		call purseCall
		code int
	}{
		"draw":                     {passWorld(), purseCall{drawCall, "d", "mill", "tons", 4}, 0},
		"draw more":                {passWorld(), purseCall{drawCall, "d", "dock", "tons", 10}, 0},
		"draw of no team":          {passWorld(), purseCall{drawCall, "d", "none", "tons", 4}, 2},
		"draw of no resource":      {passWorld(), purseCall{drawCall, "d", "mill", "", 4}, 2},
		"draw nothing":             {passWorld(), purseCall{drawCall, "d", "mill", "tons", 0}, 2},
		"draw less than nothing":   {passWorld(), purseCall{drawCall, "d", "mill", "tons", -1}, 2},
		"draw what is not free":    {passWorld(), purseCall{drawCall, "d", "mill", "tons", 5}, 3},
		"draw into one too many":   {full, purseCall{drawCall, "d", "dock", "tons", 1}, 4},
		"give back":                {passWorld(), purseCall{backCall, "d", "gang", "tons", 0}, 0},
		"give back what is not":    {passWorld(), purseCall{backCall, "d", "mill", "tons", 0}, 2},
		"give back of no team":     {passWorld(), purseCall{backCall, "d", "none", "tons", 0}, 2},
		"tick":                     {passWorld(), purseCall{which: tickCall}, 0},
		"the last tick":            {old, purseCall{which: tickCall}, 2},
		"bind":                     {passWorld(), purseCall{boundCall, "", "mill", "hands", 9}, 0},
		"bind anew":                {passWorld(), purseCall{boundCall, "", "mill", "tons", 9}, 0},
		"bind no team":             {passWorld(), purseCall{boundCall, "", "none", "tons", 9}, 2},
		"bind no resource":         {passWorld(), purseCall{boundCall, "", "mill", "No Name", 9}, 2},
		"bind below 0":             {passWorld(), purseCall{boundCall, "", "mill", "tons", -1}, 2},
		"bind above all":           {passWorld(), purseCall{boundCall, "", "mill", "tons", impl.GateMaxNumber + 1}, 2},
		"bind below what is used":  {passWorld(), purseCall{boundCall, "", "yard", "hands", 0}, 3},
		"bind one ledger too many": {bound, purseCall{boundCall, "", "mill", "tons", 9}, 4},
	} {
		book, code := c.call.byHand(passLaw(), c.w.Book)
		if code != c.code {
			t.Errorf("%s: %d by hand", what, code)
		}
		wantStep(t, what, passLaw(), c.w, eventOf(c.call, busyDoor), impl.GateSaid{Code: c.code}, func(w *impl.GateWorld) {
			if c.code == 0 {
				w.Book = book
			}
		})
	}
}

// eventOf is the event that a purse's call is, of the door at a place.
func eventOf(c purseCall, door int) impl.GateEvent {
	kind := map[int]int{drawCall: impl.GateDraws, backCall: impl.GateBacks, tickCall: impl.GateTicks, boundCall: impl.GateBinds}[c.which]
	return impl.GateEvent{Kind: kind, Door: door, Team: c.team, Resource: c.resource, Amount: c.amount}
}

// A door draws into its own purse, and gives its own purse back.
func TestPursesOfDoors(t *testing.T) {
	for at, door := range []string{"d", "k"} {
		for _, c := range []purseCall{{drawCall, door, "mill", "tons", 2}, {backCall, door, "dock", "barge", 0}, {drawCall, door, "yard", "barge", 1}} {
			book, _ := c.byHand(passLaw(), passBook())
			wantDoneStep(t, "door "+door, passWorld(), eventOf(c, at), func(w *impl.GateWorld) { w.Book = book })
		}
	}
}

func TestAWorldSweeps(t *testing.T) {
	book, code := sweepByHand(passLaw(), goodWorld().Book)
	if code != 0 || len(book.Objects) != len(passBook().Objects) {
		t.Fatalf("%d, %+v", code, book)
	}
	sweeps := impl.GateEvent{Kind: impl.GateSweeps}
	wantDoneStep(t, "one goes", goodWorld(), sweeps, func(w *impl.GateWorld) { w.Book = book })
	wantSame(t, "none goes", passLaw(), passWorld(), sweeps, 2)
	full := goodWorld()
	full.Book.Objects[0].Values[4], full.Book.Objects[2].Values[4] = "", ""
	stand(&full.Book, barge("x", "mill", 0, "0", "0", "", "", "", "y"))
	stand(&full.Book, ending(barge("y", "mill", 0, "0", "0", "", "", "", "")))
	full.Book.Now = impl.GateMaxVersion
	full.Book = balanced(passLaw(), full.Book)
	wantSame(t, "no version is left", passLaw(), full, sweeps, 3)
}

// A door that dies loses its slips, and keeps its View and its purses; one that rises has what it had.
func TestDoorsDieAndRise(t *testing.T) {
	w := goodWorld()
	for _, at := range []int{busyDoor, lateDoor} {
		wantDoneStep(t, "dies", w, impl.GateEvent{Kind: impl.GateDies, Door: at}, func(w *impl.GateWorld) { w.Doors[at].Up, w.Doors[at].Slips = false, nil })
	}
	wantDoneStep(t, "rises", w, impl.GateEvent{Kind: impl.GateRises, Door: deadDoor}, func(w *impl.GateWorld) { w.Doors[2].Up = true })
	dead, _ := impl.GateStep(passLaw(), w, impl.GateEvent{Kind: impl.GateDies, Door: busyDoor})
	again, _ := impl.GateStep(passLaw(), dead, impl.GateEvent{Kind: impl.GateRises, Door: busyDoor})
	if !sameWorld(again, turned(w, func(w *impl.GateWorld) { w.Doors[0].Slips = nil })) {
		t.Errorf("%+v", again)
	}
}

// The only event of a dead door is to rise, which no other has.
func TestWhatADeadDoorCanHave(t *testing.T) {
	for what, e := range goodEvents() {
		w := goodWorld()
		for at := range w.Doors {
			w.Doors[at].Up, w.Doors[at].Slips = false, nil
		}
		for at := range w.Doors {
			e.Door = at
			switch e.Kind {
			case impl.GateTicks, impl.GateSweeps, impl.GateBinds:
				wantHandStep(t, passLaw(), w, e, 0)
			case impl.GateRises:
				wantDoneStep(t, what, w, e, func(w *impl.GateWorld) { w.Doors[at].Up = true })
			default:
				wantSame(t, what, passLaw(), w, e, 13)
			}
		}
	}
	for _, at := range []int{busyDoor, lateDoor} {
		wantSame(t, "rises, and is Up", passLaw(), goodWorld(), impl.GateEvent{Kind: impl.GateRises, Door: at}, 13)
	}
}

// Where there is no such door, what needs one can't happen, and what needs none does.
func TestNoSuchDoor(t *testing.T) {
	for what, e := range goodEvents() {
		for _, at := range []int{-1, -2, -1 << 63, noDoor, noDoor + 1, 1<<63 - 1} {
			e.Door = at
			switch e.Kind {
			case impl.GateTicks, impl.GateSweeps, impl.GateBinds:
				wantHandStep(t, passLaw(), goodWorld(), e, 0)
			default:
				wantSame(t, what+" at "+count(at), passLaw(), goodWorld(), e, 13)
			}
		}
		if e.Kind != impl.GateTicks && e.Kind != impl.GateSweeps && e.Kind != impl.GateBinds {
			e.Door = 0
			wantSame(t, what+" where there are no doors", passLaw(), impl.GateWorld{Book: passBook()}, e, 13)
		}
	}
}

func TestNoSuchKind(t *testing.T) {
	for _, kind := range []int{0, 12, -1, 13, -1 << 63, 1<<63 - 1} {
		for what, e := range goodEvents() {
			e.Kind = kind
			wantSame(t, what+" as "+count(kind), passLaw(), goodWorld(), e, 13)
		}
		wantSame(t, "nothing as "+count(kind), impl.GateLaw{}, impl.GateWorld{}, impl.GateEvent{Kind: kind}, 13)
	}
}

func TestNoSuchSlip(t *testing.T) {
	for _, kind := range []int{impl.GateCommits, impl.GateLoses} {
		for _, at := range []int{-1, 4, 5, 6, -1 << 63, 1<<63 - 1} {
			wantSame(t, "slip "+count(at), passLaw(), passWorld(), impl.GateEvent{Kind: kind, Door: busyDoor, At: at}, 13)
		}
		wantSame(t, "no slips", passLaw(), passWorld(), impl.GateEvent{Kind: kind, Door: lateDoor}, 13)
	}
}

// A door that has as many slips as may be does not ask, whatever it would ask for.
func TestNoRoomForASlip(t *testing.T) {
	w := passWorld()
	w.Doors[0].Slips = slipRow("take", "take", "take", "take", "make", "end")
	for what, a := range goodAsks() {
		wantSame(t, what, passLaw(), w, impl.GateEvent{Kind: impl.GateAsks, Ask: a}, 13)
	}
	wantSame(t, "no ask", passLaw(), w, impl.GateEvent{Kind: impl.GateAsks}, 13)
	w.Doors[0].Slips = w.Doors[0].Slips[:5]
	wantSame(t, "no ask, and room", passLaw(), w, impl.GateEvent{Kind: impl.GateAsks}, 2)
}

func TestNothingHappensInAWorldThatIsNotOk(t *testing.T) {
	t.Parallel()
	for kind, e := range goodEvents() {
		for what, w := range wrongWorlds() {
			wantNoStep(t, kind+": "+what, passLaw(), w, e)
		}
		for what, l := range wrongLaws() {
			wantNoStep(t, kind+": "+what, l, impl.GateWorld{}, e)
		}
	}
	for what, b := range wrongBooks() {
		for _, e := range []impl.GateEvent{{}, {Kind: impl.GateTicks}, {Kind: impl.GateLook}} {
			wantNoStep(t, what, storeLaw(), impl.GateWorld{Book: b, Doors: manyDoors(1)}, e)
			wantNoStep(t, what+", as a View", storeLaw(), impl.GateWorld{Book: bareBook(), Doors: []impl.GateDoor{{Name: "d", View: b}}}, e)
		}
	}
	for what, w := range wrongWorlds() {
		wantNoStep(t, what+", and no event", passLaw(), w, impl.GateEvent{})
	}
}

// What an event does not use is not looked at.
func TestWhatAnEventDoesNotUse(t *testing.T) {
	uses := map[string]string{
		"look": "D", "asks": "DK", "commits": "DA", "loses": "DA", "draws": "DTRN", "backs": "DTR", "ticks": "",
		"dies": "D", "rises": "D", "sweeps": "", "binds": "TRN",
	}
	for what, e := range goodEvents() {
		want, said := impl.GateStep(passLaw(), goodWorld(), e)
		if said.Code != 0 {
			t.Fatalf("%s: %+v", what, said)
		}
		for part, turns := range map[rune][]func(e *impl.GateEvent){
			'D': {func(e *impl.GateEvent) { e.Door = -1 }, func(e *impl.GateEvent) { e.Door = 1 << 40 }, func(e *impl.GateEvent) { e.Door ^= 1 }},
			'K': {func(e *impl.GateEvent) { e.Ask = goodAsks()["take"] }, func(e *impl.GateEvent) { e.Ask = impl.GateAsk{Verb: -9, Values: names(50)} }},
			'A': {func(e *impl.GateEvent) { e.At = -1 }, func(e *impl.GateEvent) { e.At = 1 << 40 }, func(e *impl.GateEvent) { e.At = 3 }},
			'T': {func(e *impl.GateEvent) { e.Team = "No Team" }, func(e *impl.GateEvent) { e.Team = "gang" }},
			'R': {func(e *impl.GateEvent) { e.Resource = long(99) }, func(e *impl.GateEvent) { e.Resource = "barge" }},
			'N': {func(e *impl.GateEvent) { e.Amount = -1 << 60 }, func(e *impl.GateEvent) { e.Amount = 1 << 60 }},
		} {
			for i, turn := range turns {
				other := e
				turn(&other)
				got, told := impl.GateStep(passLaw(), goodWorld(), other)
				same := told == said && sameWorld(got, want)
				used := slices.Contains([]rune(uses[what]), part)
				if same == used {
					t.Errorf("%s with another %c (%d): %+v, and not %+v", what, part, i, told, said)
				}
			}
		}
	}
}
