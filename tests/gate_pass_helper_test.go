package tests

import (
	"slices"
	"testing"

	"loop.example/wharfhall/impl"
)

// passLaw has a kind with a field of every sort that an ask may meet, two of them weighing one resource and one
// turned by a mend; a kind whose link must be set and one that may not be turned; and one without fields.
func passLaw() impl.GateLaw {
	barge := impl.GateShape{Kind: "barge", Fields: []impl.GateField{
		{Name: "load", Kind: impl.GateNumber, Least: 0, Most: 99, Must: true, Weighs: "tons"},
		{Name: "crew", Kind: impl.GateNumber, Least: 0, Most: 50, Default: "2", Weighs: "hands"},
		{Name: "flag", Kind: impl.GateWord, Words: []string{"blue", "red"}, Fixed: true},
		{Name: "deck", Kind: impl.GateNumber, Least: 0, Most: 99, Weighs: "tons"},
		{Name: "at", Kind: impl.GateLink, To: "pier", Role: impl.GateHolds},
		{Name: "near", Kind: impl.GateLink, To: "barge", Role: impl.GateLeans},
	}}
	pier := impl.GateShape{Kind: "pier", Fields: []impl.GateField{
		{Name: "tie", Kind: impl.GateLink, To: "rope", Role: impl.GateHolds, Must: true},
		{Name: "part", Kind: impl.GateLink, To: "pier", Role: impl.GateOwned, Fixed: true},
		{Name: "post", Kind: impl.GateNumber, Least: 0, Most: 9, Weighs: "barge"},
	}}
	return impl.GateLaw{
		Shapes: []impl.GateShape{barge, pier, {Kind: "rope"}},
		Mends:  []impl.GateMend{{Kind: "barge", Field: "deck", When: "flag", Is: "red", Put: "9"}},
		Teams:  yardTeams(),
	}
}

func barge(name, team string, version int, values ...string) impl.GateObject {
	return impl.GateObject{Kind: "barge", Name: name, Team: team, Values: values, Version: version}
}

// passBook is an ok book, in which the links of the barge c name Ending ones. Of those whom the grants name ann may
// do all, bob makes and changes barges of dock whose names begin with b, and cy has several rules that say little alone.
func passBook() impl.GateBook {
	post := func(name string, values ...string) impl.GateObject {
		return impl.GateObject{Kind: "pier", Name: name, Team: "yard", Values: values, Version: 2}
	}
	b := impl.GateBook{Now: 20, Tick: 5, Given: 8,
		Objects: []impl.GateObject{
			barge("a", "gang", 3, "10", "2", "", "", "p", ""),
			held(barge("b", "dock", 20, "5", "0", "red", "9", "", "a"), "h", "tax"),
			barge("c", "dock", 5, "1", "1", "", "", "q", "e"),
			held(ending(barge("e", "dock", 4, "1", "1", "", "", "", "")), "h"),
			post("p", "r", "", ""),
			ending(post("q", "r", "p", "1")),
			{Kind: "rope", Name: "r", Team: "mill", Version: 6, Holds: []string{"h"}},
		},
		Grants: []impl.GateGrant{
			grant(1, "ann", "", openRule()),
			grant(2, "bob", "ann", rule(verbs(1, 2), "barge", "dock", "b")),
			grant(3, "cy", "ann", rule(verbs(1, 3), "barge", "", "")),
			grant(5, "cy", "bob", rule(verbs(2, 4), "", "dock", "")),
			grant(8, "cy", "ann", rule(verbs(5), "", "yard", "b")),
		},
		Ledgers: []impl.GateLedger{
			ledger("dock", "barge", 0, 3),
			ledger("dock", "tons", 0, 10),
			ledger("gang", "tons", 0, 5),
			ledger("mill", "tons", 0, 4),
			ledger("yard", "barge", 0, 2),
			ledger("yard", "hands", 0, 1),
		},
		Purses: []impl.GatePurse{
			purse("d", "dock", "barge", 2, 5),
			purse("d", "dock", "tons", 20, 15),
			purse("d", "gang", "tons", 12, 9),
			purse("d", "yard", "barge", 3, 7),
			purse("d", "yard", "hands", 6, 7),
			purse("k", "dock", "barge", 1, 9),
			purse("k", "dock", "tons", 1, 9),
			purse("k", "yard", "hands", 1, 6),
		},
	}
	return balanced(passLaw(), b)
}

// balanced gives each ledger the Most that what is used, drawn and free of it is.
func balanced(l impl.GateLaw, b impl.GateBook) impl.GateBook {
	for i, g := range b.Ledgers {
		b.Ledgers[i].Most = g.Free + usedByHand(l, b, g.Team, g.Resource) + drawnByHand(b, g)
	}
	return b
}

func askMake(kind, name, team string, values ...string) impl.GateAsk {
	return impl.GateAsk{Who: "ann", Verb: impl.GateMake, Kind: kind, Name: name, Team: team, Values: values}
}

func askChange(kind, name string, values ...string) impl.GateAsk {
	return impl.GateAsk{Who: "ann", Verb: impl.GateChange, Kind: kind, Name: name, Values: values}
}

func askEnd(kind, name string) impl.GateAsk {
	return impl.GateAsk{Who: "ann", Verb: impl.GateEnd, Kind: kind, Name: name}
}

func askLetGo(kind, name, hold string) impl.GateAsk {
	return impl.GateAsk{Who: "ann", Verb: impl.GateLetGo, Kind: kind, Name: name, Hold: hold}
}

func askGive(to string, r impl.GateRule) impl.GateAsk {
	return impl.GateAsk{Who: "ann", Verb: impl.GateGive, To: to, Rule: r}
}

func askTake(number int) impl.GateAsk {
	return impl.GateAsk{Who: "ann", Verb: impl.GateTake, Number: number}
}

func byWho(a impl.GateAsk, who string) impl.GateAsk {
	a.Who = who
	return a
}

func seeing(a impl.GateAsk, version int) impl.GateAsk {
	a.Seen = version
	return a
}

func holding(a impl.GateAsk, holds ...string) impl.GateAsk {
	a.Holds = holds
	return a
}

// goodAsks are asks that are ok by the law, one of each verb, each done in the book.
func goodAsks() map[string]impl.GateAsk {
	return map[string]impl.GateAsk{
		"make":   holding(askMake("barge", "z", "dock", "3", "1", "red", "", "p", "a"), "h", "tax"),
		"change": seeing(askChange("barge", "c", "2", "1", "blue", "1", "p", "a"), 5),
		"end":    seeing(askEnd("barge", "a"), 3),
		"let go": askLetGo("barge", "b", "h"),
		"give":   askGive("bob", rule(verbs(1, 5), "barge", "dock", "c")),
		"take":   askTake(2),
	}
}

// ledgerOf is the ledger of a book, to be turned.
func ledgerOf(b *impl.GateBook, team, resource string) *impl.GateLedger {
	return &b.Ledgers[slices.IndexFunc(b.Ledgers, func(g impl.GateLedger) bool { return g.Team == team && g.Resource == resource })]
}

// pay takes an amount out of a purse of a book, which goes with its last.
func pay(b *impl.GateBook, door, team, resource string, amount int) {
	at := purseCall{door: door, team: team, resource: resource}.purseAt(b)
	b.Purses[at].Amount -= amount
	if b.Purses[at].Amount == 0 {
		b.Purses = slices.Delete(b.Purses, at, at+1)
	}
}

// stand puts an object into a book, over the one that has its Kind and Name, with a version of its own.
func stand(b *impl.GateBook, o impl.GateObject) {
	b.Now++
	o.Version = b.Now
	at := placeIn(*b, o)
	if at >= 0 {
		b.Objects[at] = o
		return
	}
	b.Objects = append(b.Objects, o)
	slices.SortFunc(b.Objects, func(x, y impl.GateObject) int {
		if x.Kind+" "+x.Name < y.Kind+" "+y.Name {
			return -1
		}
		return 1
	})
}

// wantPass asks that an ask is done, and leaves a book.
func wantPass(t *testing.T, what string, b impl.GateBook, door string, a impl.GateAsk, want impl.GateBook) {
	t.Helper()
	wantBook(t, what, passLaw(), b, true)
	got, said := impl.GatePass(passLaw(), b, door, a)
	wantDone(t, what, passLaw(), got, said.Code, want)
	if said != (impl.GateSaid{Version: b.Now + 1}) {
		t.Errorf("%s: said is %+v", what, said)
	}
}

// wantSaid asks that an ask is refused, and that the book is as it was.
func wantSaid(t *testing.T, what string, b impl.GateBook, door string, a impl.GateAsk, want impl.GateSaid) {
	t.Helper()
	wantBook(t, what, passLaw(), b, true)
	got, said := impl.GatePass(passLaw(), b, door, a)
	if said != want || !sameBook(got, b) {
		t.Errorf("%s: %+v, not %+v, and %+v,\nnot %+v", what, said, want, got, b)
	}
}

// wantCode is wantSaid of a code that tells nothing else.
func wantCode(t *testing.T, what string, b impl.GateBook, door string, a impl.GateAsk, code int) {
	t.Helper()
	wantSaid(t, what, b, door, a, impl.GateSaid{Code: code})
}

// wantNothing asks for a code with which the book is nothing.
func wantNothing(t *testing.T, what string, l impl.GateLaw, b impl.GateBook, door string, a impl.GateAsk, code int) {
	t.Helper()
	got, said := impl.GatePass(l, b, door, a)
	if said != (impl.GateSaid{Code: code}) || !sameBook(got, impl.GateBook{}) {
		t.Errorf("%s: %+v, not %d, and %+v", what, said, code, got)
	}
}
