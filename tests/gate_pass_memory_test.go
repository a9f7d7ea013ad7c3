package tests

import (
	"maps"
	"testing"

	"loop.example/wharfhall/impl"
)

// memoryPasses are calls that are done, and ones that are refused with each code.
func memoryPasses() map[string]passCase {
	out := map[string]passCase{}
	for what, a := range goodAsks() {
		out[what] = passCase{book: passBook(), door: "d", ask: a}
	}
	for what, faults := range map[string][]passFault{
		"make": makeFaults(), "change": changeFaults(), "end": endFaults(), "let go": letGoFaults(), "give": giveFaults(), "take": takeFaults(),
	} {
		for i, f := range faults {
			c := passCase{book: passBook(), door: "d", ask: withRoom(goodAsks()[what])}
			f.spoil(&c)
			out[what+", fault "+count(i)] = c
		}
	}
	out["less, and all that is drawn is spent"] = passCase{book: passBook(), door: "d", ask: askChange("barge", "b", "4", "6", "red", "", "p", "")}
	out["no object is there"] = passCase{book: impl.GateBook{Now: 1, Given: 1, Grants: manyGrants(1)}, door: "d", ask: askMake("rope", "r", "dock")}
	out["the last grant goes"] = passCase{book: impl.GateBook{Now: 1, Given: 1, Grants: manyGrants(1)}, door: "d", ask: askTake(1)}
	return out
}

func TestNoAskIsWrittenInto(t *testing.T) {
	for what, c := range memoryPasses() {
		l, b, a := withRoom(passLaw()), withRoom(c.book), withRoom(c.ask)
		lawBefore, bookBefore, askBefore := opened(l), opened(b), opened(a)
		impl.GatePass(l, b, c.door, a)
		impl.GateAskOk(l, a)
		impl.GateMay(l, b, a.Who, act(a.Verb, a.Kind, a.Team, a.Name))
		wantUntouched(t, what, l, lawBefore)
		wantUntouched(t, what, b, bookBefore)
		wantUntouched(t, what, a, askBefore)
	}
}

func TestAPassSharesNoMemory(t *testing.T) {
	for what, c := range memoryPasses() {
		l, b, a := withRoom(passLaw()), withRoom(c.book), withRoom(c.ask)
		got, _ := impl.GatePass(l, b, c.door, a)
		wantApart(t, what, got, l, b, a)
	}
}

// Lists that the arguments have twice are apart in the answer.
func TestListsOfAPassShareNoMemory(t *testing.T) {
	asks := maps.Clone(goodAsks())
	asks["same values"] = askChange("barge", "c")
	for what, a := range asks {
		b := passBook()
		for i := range b.Grants {
			b.Grants[i].Rule = openRule()
			b.Grants[i].Rule.Verbs = b.Grants[0].Rule.Verbs
		}
		if a.Verb == impl.GateGive {
			a.Rule = b.Grants[0].Rule
		}
		b.Objects[0].Holds = b.Objects[1].Holds
		b.Objects[2].Holds = b.Objects[1].Holds[:1]
		b.Objects[2].Values = b.Objects[0].Values
		if a.Verb == impl.GateChange {
			a.Seen, a.Values = 0, b.Objects[2].Values
		}
		if a.Verb == impl.GateMake {
			a.Holds, a.Values = b.Objects[1].Holds, b.Objects[0].Values
		}
		b = balanced(passLaw(), b)
		got, said := impl.GatePass(passLaw(), b, "d", a)
		if said.Code != 0 {
			t.Errorf("%s: %+v", what, said)
		}
		wantApart(t, what, got, b, a)
	}
}

// The same call gives the same answer again, whatever was asked between.
func TestPassesKeepNothing(t *testing.T) {
	for what, c := range memoryPasses() {
		first, said := impl.GatePass(passLaw(), c.book, c.door, c.ask)
		kept := bookCopy(first)
		for _, a := range goodAsks() {
			impl.GatePass(passLaw(), first, "d", a)
			impl.GatePass(passLaw(), passBook(), "k", a)
		}
		again, same := impl.GatePass(passLaw(), c.book, c.door, c.ask)
		if said != same || !sameBook(first, kept) || !sameBook(again, kept) {
			t.Errorf("%s: %+v, then %+v", what, first, again)
		}
	}
}
