package tests

import (
	"testing"

	"loop.example/wharfhall/impl"
)

func TestSlipsOfEachVerb(t *testing.T) {
	for what, a := range goodAsks() {
		for _, door := range goodNames() {
			wantSlip(t, what+" at "+door, passLaw(), passBook(), door, a, goodWants()[what]...)
		}
	}
}

func TestSlipsAreCommittedToWhatIsAsked(t *testing.T) {
	for what, s := range goodSlips() {
		if said := wantAsAsked(t, what, passLaw(), passBook(), s); said != (impl.GateSaid{Version: 21}) {
			t.Errorf("%s: %+v", what, said)
		}
	}
}

// A slip that was committed is late when it comes again: what it asked for has turned what it relied on.
func TestASlipIsCommittedOnce(t *testing.T) {
	for what, s := range goodSlips() {
		b, said := impl.GateCommit(passLaw(), passBook(), s)
		if said.Code != 0 {
			t.Fatalf("%s: %+v", what, said)
		}
		place := 1
		if len(s.Wants) == 0 {
			place = 0
		}
		wantLate(t, what, passLaw(), b, s, lateAt(place))
	}
}

// The links of an object to be made: all that are set, in the order of the fields.
func TestWantsOfMaking(t *testing.T) {
	b := passBook()
	for what, c := range map[string]struct {
		a     impl.GateAsk
		wants []impl.GateWant
	}{
		"no field":         {askMake("rope", "s", "dock"), []impl.GateWant{wanted("rope", "s", 0)}},
		"no link":          {askMake("barge", "z", "dock", "1", "1", "", "", "", ""), []impl.GateWant{wanted("barge", "z", 0)}},
		"the first link":   {askMake("barge", "z", "dock", "1", "1", "", "", "p", ""), []impl.GateWant{wanted("barge", "z", 0), wanted("pier", "p", 2)}},
		"the last link":    {askMake("barge", "z", "dock", "1", "1", "", "", "", "b"), []impl.GateWant{wanted("barge", "z", 0), wanted("barge", "b", 20)}},
		"two kinds":        {askMake("pier", "z", "mill", "r", "p", ""), []impl.GateWant{wanted("pier", "z", 0), wanted("rope", "r", 6), wanted("pier", "p", 2)}},
		"another's name":   {askMake("rope", "p", "dock"), []impl.GateWant{wanted("rope", "p", 0)}},
		"ahead of all":     {askMake("barge", "0", "dock", "1", "1", "", "", "p", ""), []impl.GateWant{wanted("barge", "0", 0), wanted("pier", "p", 2)}},
		"a mend turns it":  {askMake("barge", "z", "dock", "1", "1", "red", "no number", "p", ""), []impl.GateWant{wanted("barge", "z", 0), wanted("pier", "p", 2)}},
		"made by bob":      {byWho(askMake("barge", "bz", "gang", "1", "1", "", "", "", "a"), "bob"), []impl.GateWant{wanted("barge", "bz", 0), wanted("barge", "a", 3)}},
		"with holds":       {holding(askMake("rope", "s", "dock"), "h", "p", "r"), []impl.GateWant{wanted("rope", "s", 0)}},
		"what is too dear": {askMake("barge", "z", "dock", "99", "50", "", "99", "p", "a"), []impl.GateWant{wanted("barge", "z", 0), wanted("pier", "p", 2), wanted("barge", "a", 3)}},
	} {
		wantSlip(t, what, passLaw(), b, "d", c.a, c.wants...)
	}
}

// Of a change the links that are to something else than before; c names the Ending q and e.
func TestWantsOfChanging(t *testing.T) {
	b := passBook()
	asked, p, a, c := wanted("barge", "c", 5), wanted("pier", "p", 2), wanted("barge", "a", 3), wanted("barge", "c", 5)
	for what, x := range map[string]struct {
		at, near string
		wants    []impl.GateWant
	}{
		"as before":              {"q", "e", []impl.GateWant{asked}},
		"emptied":                {"", "", []impl.GateWant{asked}},
		"the first is emptied":   {"", "e", []impl.GateWant{asked}},
		"the last is emptied":    {"q", "", []impl.GateWant{asked}},
		"the first is new":       {"p", "e", []impl.GateWant{asked, p}},
		"the last is new":        {"q", "a", []impl.GateWant{asked, a}},
		"both are new":           {"p", "a", []impl.GateWant{asked, p, a}},
		"one new, one emptied":   {"p", "", []impl.GateWant{asked, p}},
		"one emptied, one new":   {"", "b", []impl.GateWant{asked, wanted("barge", "b", 20)}},
		"itself, new":            {"q", "c", []impl.GateWant{asked, c}},
		"another, and itself":    {"p", "c", []impl.GateWant{asked, p, c}},
		"emptied, and itself":    {"", "c", []impl.GateWant{asked, c}},
		"one new, one as before": {"p", "e", []impl.GateWant{asked, p}},
	} {
		for _, seen := range []int{0, 5} {
			wantSlip(t, what, passLaw(), b, "d", seeing(askChange("barge", "c", "1", "1", "", "", x.at, x.near), seen), x.wants...)
		}
	}
	wantSlip(t, "a kind without fields", passLaw(), b, "d", askChange("rope", "r"), wanted("rope", "r", 6))
}

// A name that two links name is wanted twice, and so is one that links of two kinds name.
func TestWantsOfOneNameByTwoLinks(t *testing.T) {
	l := endLaw()
	b := endBook(withVersion(quay("a"), 3), withVersion(quay("b", "on=a"), 4),
		withVersion(ship("a"), 5), withVersion(ship("b"), 6), withVersion(ship("c", "tow=a", "part=b", "next=a"), 7))
	shipA, shipB, quayA, quayB := wanted("ship", "a", 5), wanted("ship", "b", 6), wanted("quay", "a", 3), wanted("quay", "b", 4)
	made, of := wanted("ship", "z", 0), wanted("ship", "c", 7)
	wantSlip(t, "five links", l, b, "d", askMake("ship", "z", "dock", "", "a", "a", "b", "a", "a"), made, shipA, shipA, shipB, shipA, quayA)
	wantSlip(t, "five links to one name", l, b, "d", askMake("ship", "z", "dock", "", "b", "b", "b", "b", "b"), made, shipB, shipB, shipB, shipB, quayB)
	wantSlip(t, "two kinds by turns", l, b, "d", askMake("quay", "z", "dock", "a", "a", "b", "b", "a", "7"), wanted("quay", "z", 0), shipA, quayA, quayB, shipB, quayA)
	wantSlip(t, "what one link named, another names now", l, b, "d", askChange("ship", "c", "1", "b", "a", "", "", ""), of, shipB, shipA)
	wantSlip(t, "two that are as before, two that name the same", l, b, "d", askChange("ship", "c", "1", "a", "a", "b", "a", "b"), of, shipA, shipB, quayB)
	wantSlip(t, "itself by two links", l, b, "d", askChange("ship", "c", "1", "c", "b", "c", "", ""), of, of, of)
	wantSlip(t, "all as before", l, b, "d", askChange("ship", "c", "9", "a", "b", "", "a", ""), of)
}

func TestWantsOfEndingAndLettingGo(t *testing.T) {
	b := passBook()
	wantSlip(t, "end what has links", passLaw(), b, "d", askEnd("barge", "c"), wanted("barge", "c", 5))
	wantSlip(t, "end what is held", passLaw(), b, "d", seeing(askEnd("pier", "p"), 2), wanted("pier", "p", 2))
	wantSlip(t, "let go of what is Ending", passLaw(), b, "d", askLetGo("barge", "e", "h"), wanted("barge", "e", 4))
	wantSlip(t, "let go of what has no fields", passLaw(), b, "d", askLetGo("rope", "r", "h"), wanted("rope", "r", 6))
}

// What the grants allow is relied on by Given alone.
func TestWantsOfGivingAndTaking(t *testing.T) {
	b := passBook()
	wantSlip(t, "give", passLaw(), b, "none", byWho(askGive("dee", rule(verbs(1), "barge", "yard", "b")), "cy"))
	wantSlip(t, "take", passLaw(), b, "none", byWho(askTake(5), "bob"))
	b.Given = 20
	wantSlip(t, "another Given", passLaw(), b, "none", askTake(1))
	first := impl.GateBook{Now: 1, Given: 1, Grants: manyGrants(1)}
	wantSlip(t, "the last grant", passLaw(), first, "none", askTake(1))
}

// A view that only code 10 stands against lets an ask pass; it stands against it when the slip is committed.
func TestASlipIsMadeWhateverItCosts(t *testing.T) {
	b := passBook()
	dear := askMake("barge", "z", "gang", "3", "2", "red", "", "p", "")
	wants := []impl.GateWant{wanted("barge", "z", 0), wanted("pier", "p", 2)}
	for door, place := range map[string]int{"none": 0, "k": 1} {
		wantSaid(t, "too dear for "+door, b, door, dear, impl.GateSaid{Code: 10, Place: place})
		wantSlip(t, "too dear for "+door, passLaw(), b, door, dear, wants...)
		s, _ := impl.GateSlipOf(passLaw(), b, door, dear)
		wantLate(t, "commit by "+door, passLaw(), b, s, impl.GateSaid{Code: 10, Place: place})
	}
	more := askChange("barge", "c", "3", "2", "", "", "q", "e")
	wantSaid(t, "more", b, "k", more, impl.GateSaid{Code: 10, Place: 1})
	wantSlip(t, "more", passLaw(), b, "k", more, wanted("barge", "c", 5))
	wantLate(t, "more", passLaw(), b, impl.GateSlip{Door: "k", Ask: more, Given: 8, Wants: []impl.GateWant{wanted("barge", "c", 5)}}, impl.GateSaid{Code: 10, Place: 1})
	full := passCase{book: passBook()}
	fullOfRopes(&full)
	wantSaid(t, "too dear, and too many", full.book, "none", dear, impl.GateSaid{Code: 10})
	wantNoSlip(t, "too dear, and too many", passLaw(), full.book, "none", dear, impl.GateSaid{Code: 11})
	last := passBook()
	last.Now = impl.GateMaxVersion
	wantNoSlip(t, "too dear, and no version", passLaw(), last, "none", more, impl.GateSaid{Code: 11})
}

// What was drawn since the view was looked at pays for a slip, and what was spent does not.
func TestPursesCountWhenASlipIsCommitted(t *testing.T) {
	b := passBook()
	dear := impl.GateAsk{Who: "ann", Verb: impl.GateMake, Kind: "barge", Name: "z", Team: "mill", Values: []string{"4", "0", "", "", "", ""}}
	wantSaid(t, "no purse", b, "d", dear, impl.GateSaid{Code: 10, Place: 3})
	s, _ := impl.GateSlipOf(passLaw(), b, "d", dear)
	drawn, _ := impl.GateDraw(passLaw(), b, "d", "mill", "tons", 4)
	if said := wantAsAsked(t, "drawn", passLaw(), drawn, s); said != (impl.GateSaid{Version: 21}) {
		t.Errorf("drawn: %+v", said)
	}
	other, _ := impl.GateDraw(passLaw(), b, "k", "mill", "tons", 4)
	wantLate(t, "drawn by another door", passLaw(), other, s, impl.GateSaid{Code: 10, Place: 3})
	s, _ = impl.GateSlipOf(passLaw(), drawn, "d", dear)
	back, _ := impl.GateBack(passLaw(), drawn, "d", "mill", "tons")
	wantLate(t, "given back", passLaw(), back, s, impl.GateSaid{Code: 10, Place: 3})
}

func TestAWrongViewMakesNoSlip(t *testing.T) {
	ask := askEnd("stone", "s")
	for what, l := range wrongLaws() {
		wantNoSlip(t, what, l, impl.GateBook{}, "d", ask, impl.GateSaid{Code: 1})
	}
	for what, b := range wrongBooks() {
		wantNoSlip(t, what, storeLaw(), b, "d", ask, impl.GateSaid{Code: 1})
		wantNoSlip(t, what+", and no ask", storeLaw(), b, "d", impl.GateAsk{}, impl.GateSaid{Code: 1})
	}
	for _, door := range notNames() {
		wantNoSlip(t, "door "+door, passLaw(), passBook(), door, askTake(2), impl.GateSaid{Code: 1})
		wantNoSlip(t, "door "+door+", and no ask", passLaw(), passBook(), door, impl.GateAsk{}, impl.GateSaid{Code: 1})
	}
	for what, a := range spoiledAsks() {
		wantNoSlip(t, what, passLaw(), passBook(), "d", a, impl.GateSaid{Code: 2})
	}
}

// The codes of a view, with each two that would do, and with any more of them: the least that is not 10 is told.
func TestTheFirstCodeOfAViewIsTold(t *testing.T) {
	for what, f := range codeCases() {
		for part := range 1 << len(f.faults) {
			c, want := f.spoiled(part, func(code int) bool { return code != 10 })
			if want.Code != 0 {
				wantNoSlip(t, what+", faults "+count(part), passLaw(), c.book, c.door, c.ask, want)
				continue
			}
			got, said := impl.GateSlipOf(passLaw(), c.book, c.door, c.ask)
			if said != want || got.Door != "d" || !sameAsk(got.Ask, c.ask) {
				t.Errorf("%s, faults %b: %+v, %+v", what, part, said, got)
			}
		}
	}
}

func TestSlipsThatAreOk(t *testing.T) {
	for what, s := range goodSlips() {
		for _, n := range []int{0, 1, impl.GateMaxWants - 1, impl.GateMaxWants} {
			s.Wants = manyWants(n)
			wantSlipOk(t, what+" with wants: "+count(n), passLaw(), s, true)
		}
		for _, n := range []int{0, 1, impl.GateMaxVersion, impl.GateMaxVersion + 1, 1 << 62} {
			s.Given, s.Wants = n, []impl.GateWant{wanted("barge", "a", n)}
			wantSlipOk(t, what+" with Given "+count(n), passLaw(), s, true)
		}
		for _, name := range goodNames() {
			s.Door, s.Wants = name, []impl.GateWant{wanted(name, "a", 1), wanted("a", name, 1)}
			wantSlipOk(t, what+" with "+name, passLaw(), s, true)
		}
		// What is wanted hangs on nothing: one thing may be wanted in two ways, and any of a kind that there is not.
		s.Wants = []impl.GateWant{wanted("raft", "a", 1), wanted("raft", "a", 0), wanted("raft", "a", 1)}
		wantSlipOk(t, what+" with a want twice", passLaw(), s, true)
	}
}

func TestSlipsThatAreNotOk(t *testing.T) {
	for what, s := range spoiledSlips() {
		wantSlipOk(t, what, passLaw(), s, false)
		wantNoCommit(t, what, passLaw(), passBook(), s, 2)
	}
	for what, l := range wrongLaws() {
		wantSlipOk(t, what, l, slip(askEnd("stone", "s")), false)
		wantSlipOk(t, what, l, slip(askTake(1)), false)
	}
	wantSlipOk(t, "the store's law", storeLaw(), slip(askEnd("stone", "s")), true)
	wantSlipOk(t, "the store's law", storeLaw(), slip(askTake(1)), true)
	wantSlipOk(t, "a law with nothing", impl.GateLaw{}, slip(askTake(1)), true)
	wantSlipOk(t, "a law with nothing", impl.GateLaw{}, slip(askEnd("stone", "s")), false)
}

func wantSlipOk(t *testing.T, what string, l impl.GateLaw, s impl.GateSlip, want bool) {
	t.Helper()
	if got := impl.GateSlipOk(l, s); got != want {
		t.Errorf("%s: GateSlipOk of %+v = %v", what, s, got)
	}
}
