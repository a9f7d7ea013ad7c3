package tests

import (
	"maps"
	"slices"
	"testing"

	"loop.example/wharfhall/impl"
)

func wantAsk(t *testing.T, what string, l impl.GateLaw, a impl.GateAsk, want bool) {
	t.Helper()
	if got := impl.GateAskOk(l, a); got != want {
		t.Errorf("%s: GateAskOk of %+v = %v", what, a, got)
	}
}

// askParts sets each part of an ask that some verb does not use, to what would be right with one that does.
func askParts() map[string]func(a *impl.GateAsk) {
	return map[string]func(a *impl.GateAsk){
		"Kind":              func(a *impl.GateAsk) { a.Kind = "rope" },
		"Name":              func(a *impl.GateAsk) { a.Name = "z" },
		"Team":              func(a *impl.GateAsk) { a.Team = "dock" },
		"Values":            func(a *impl.GateAsk) { a.Values = []string{"1", "", "", "", "", ""} },
		"Values, one empty": func(a *impl.GateAsk) { a.Values = []string{""} },
		"Holds":             func(a *impl.GateAsk) { a.Holds = []string{"h"} },
		"Holds, one empty":  func(a *impl.GateAsk) { a.Holds = []string{""} },
		"Seen":              func(a *impl.GateAsk) { a.Seen = 3 },
		"Seen below 0":      func(a *impl.GateAsk) { a.Seen = -3 },
		"Hold":              func(a *impl.GateAsk) { a.Hold = "h" },
		"To":                func(a *impl.GateAsk) { a.To = "bob" },
		"Rule":              func(a *impl.GateAsk) { a.Rule = openRule() },
		"Rule's Verbs":      func(a *impl.GateAsk) { a.Rule.Verbs = verbs(1) },
		"Rule's Kind":       func(a *impl.GateAsk) { a.Rule.Kind = "barge" },
		"Rule's Team":       func(a *impl.GateAsk) { a.Rule.Team = "dock" },
		"Rule's Prefix":     func(a *impl.GateAsk) { a.Rule.Prefix = "b" },
		"Number":            func(a *impl.GateAsk) { a.Number = 1 },
		"Number below 0":    func(a *impl.GateAsk) { a.Number = -1 },
	}
}

// unusedParts tells for each verb what it does not use.
func unusedParts() map[string][]string {
	rule := []string{"Rule", "Rule's Verbs", "Rule's Kind", "Rule's Team", "Rule's Prefix"}
	object := []string{"Kind", "Name", "Team", "Values", "Values, one empty", "Holds", "Holds, one empty", "Seen", "Seen below 0", "Hold"}
	give := append([]string{"To", "Number", "Number below 0"}, rule...)
	return map[string][]string{
		"make":   append([]string{"Seen", "Seen below 0", "Hold"}, give...),
		"change": append([]string{"Team", "Holds", "Holds, one empty", "Hold"}, give...),
		"end":    append([]string{"Team", "Values", "Values, one empty", "Holds", "Holds, one empty", "Hold"}, give...),
		"let go": append([]string{"Team", "Values", "Values, one empty", "Holds", "Holds, one empty", "Seen", "Seen below 0"}, give...),
		"give":   append([]string{"Number", "Number below 0"}, object...),
		"take":   append(append([]string{"To"}, object...), rule...),
	}
}

func TestAnAskSetsNothingThatItsVerbDoesNotUse(t *testing.T) {
	asks, parts := goodAsks(), askParts()
	for what, unused := range unusedParts() {
		wantAsk(t, what, passLaw(), asks[what], true)
		for _, part := range unused {
			a := asks[what]
			parts[part](&a)
			wantAsk(t, what+" with "+part, passLaw(), a, false)
			wantNothing(t, what+" with "+part, passLaw(), passBook(), "d", a, 2)
		}
	}
}

// An empty list is nothing, as a nil one is.
func TestAnAskMayHaveEmptyLists(t *testing.T) {
	for what, a := range goodAsks() {
		if a.Values == nil {
			a.Values = []string{}
		}
		if a.Holds == nil {
			a.Holds = []string{}
		}
		if a.Rule.Verbs == nil {
			a.Rule.Verbs = []int{}
		}
		wantAsk(t, what, passLaw(), a, true)
	}
}

// spoiledAsks are the good asks with one part that they use turned wrong.
func spoiledAsks() map[string]impl.GateAsk {
	out := map[string]impl.GateAsk{}
	turn := func(how string, of []string, spoil func(a *impl.GateAsk)) {
		for _, what := range of {
			a := goodAsks()[what]
			spoil(&a)
			out[what+": "+how] = a
		}
	}
	all := []string{"make", "change", "end", "let go", "give", "take"}
	objects, filled := all[:4], all[:2]
	for _, s := range notNames() {
		turn("Who "+s, all, func(a *impl.GateAsk) { a.Who = s })
		turn("Kind "+s, objects, func(a *impl.GateAsk) { a.Kind = s })
		turn("Name "+s, objects, func(a *impl.GateAsk) { a.Name = s })
		turn("Team "+s, all[:1], func(a *impl.GateAsk) { a.Team = s })
		turn("Hold "+s, all[3:4], func(a *impl.GateAsk) { a.Hold = s })
		turn("To "+s, all[4:5], func(a *impl.GateAsk) { a.To = s })
		turn("a hold "+s, all[:1], func(a *impl.GateAsk) { a.Holds = []string{s} })
		turn("a later hold "+s, all[:1], func(a *impl.GateAsk) { a.Holds = []string{"-", s} })
	}
	for _, verb := range []int{0, -1, 7, 1 << 40, -1 << 40} {
		turn("Verb "+count(verb), all, func(a *impl.GateAsk) { a.Verb = verb })
	}
	turn("the verb behind its own", all, func(a *impl.GateAsk) { a.Verb = 1 + a.Verb%impl.GateTake })
	turn("a Kind of no shape", objects, func(a *impl.GateAsk) { a.Kind = "raft" })
	turn("another shape's Kind", filled, func(a *impl.GateAsk) { a.Kind = "pier" })
	turn("a Kind without fields", filled, func(a *impl.GateAsk) { a.Kind = "rope" })
	turn("a Team of none", all[:1], func(a *impl.GateAsk) { a.Team = "docks" })
	turn("a value too few", filled, func(a *impl.GateAsk) { a.Values = a.Values[:5] })
	turn("a value too many", filled, func(a *impl.GateAsk) { a.Values = append(slices.Clone(a.Values), "") })
	turn("no values", filled, func(a *impl.GateAsk) { a.Values = nil })
	turn("a hold too many", all[:1], func(a *impl.GateAsk) { a.Holds = names(impl.GateMaxHolds + 1) })
	turn("a hold twice", all[:1], func(a *impl.GateAsk) { a.Holds = []string{"a", "a"} })
	turn("holds that go down", all[:1], func(a *impl.GateAsk) { a.Holds = []string{"a", "c", "b"} })
	turn("Seen -1", all[1:3], func(a *impl.GateAsk) { a.Seen = -1 })
	turn("a great Seen below 0", all[1:3], func(a *impl.GateAsk) { a.Seen = -1 << 62 })
	turn("Number 0", all[5:], func(a *impl.GateAsk) { a.Number = 0 })
	turn("Number -1", all[5:], func(a *impl.GateAsk) { a.Number = -1 })
	for what, r := range wrongRules() {
		turn("a rule with "+what, all[4:5], func(a *impl.GateAsk) { a.Rule = r })
	}
	return out
}

func TestAWrongAskIsNotOk(t *testing.T) {
	for what, a := range spoiledAsks() {
		wantAsk(t, what, passLaw(), a, false)
		wantNothing(t, what, passLaw(), passBook(), "d", a, 2)
	}
	wantAsk(t, "nothing", passLaw(), impl.GateAsk{}, false)
	wantNothing(t, "nothing", passLaw(), passBook(), "d", impl.GateAsk{}, 2)
}

// What an ask uses may be all that fits the words of the table, whatever the book has.
func TestAnAskIsOkAtItsEdges(t *testing.T) {
	for _, s := range goodNames() {
		wantAsk(t, "Who", passLaw(), byWho(askEnd("rope", "r"), s), true)
		wantAsk(t, "Name", passLaw(), askMake("rope", s, "dock"), true)
		wantAsk(t, "Name", passLaw(), askEnd("rope", s), true)
		wantAsk(t, "Hold", passLaw(), askLetGo("rope", "r", s), true)
		wantAsk(t, "To", passLaw(), askGive(s, openRule()), true)
		wantAsk(t, "Holds", passLaw(), holding(askMake("rope", "r", "dock"), s), true)
	}
	wantAsk(t, "all holds", passLaw(), holding(askMake("rope", "r", "dock"), names(impl.GateMaxHolds)...), true)
	wantAsk(t, "holds that begin the same", passLaw(), holding(askMake("rope", "r", "dock"), "a", "aa", "ab"), true)
	wantAsk(t, "values that fit nothing", passLaw(), askMake("barge", "z", "dock", "", "\xff", long(900), " ", "A", "-1"), true)
	wantAsk(t, "values that fit nothing", passLaw(), askChange("barge", "z", "", "\xff", long(900), " ", "A", "-1"), true)
	for _, n := range []int{1, impl.GateMaxVersion, impl.GateMaxVersion + 1, 1 << 62} {
		wantAsk(t, "Seen", passLaw(), seeing(askEnd("rope", "r"), n), true)
		wantAsk(t, "Seen", passLaw(), seeing(askChange("rope", "r"), n), true)
		wantAsk(t, "Number", passLaw(), askTake(n), true)
	}
	for _, r := range []impl.GateRule{rule(verbs(1), "", "", ""), rule(verbs(5), "none", "none", long(16)), openRule()} {
		wantAsk(t, "Rule", passLaw(), askGive("bob", r), true)
	}
	for _, team := range yardTeams() {
		wantAsk(t, "Team", passLaw(), askMake("rope", "r", team.Name), true)
	}
}

func TestAnAskOfAWrongLawIsNotOk(t *testing.T) {
	for what, l := range wrongLaws() {
		for _, a := range []impl.GateAsk{askTake(1), askGive("bob", openRule()), askEnd("stone", "s"), askMake("stone", "s", "dock")} {
			wantAsk(t, what, l, a, false)
			wantNothing(t, what, l, impl.GateBook{}, "d", a, 1)
		}
	}
	for _, a := range []impl.GateAsk{askTake(1), askEnd("stone", "s"), askMake("stone", "s", "dock"), askChange("stone", "s")} {
		wantAsk(t, "the store's law", storeLaw(), a, true)
	}
	wantAsk(t, "a law with nothing", impl.GateLaw{}, askTake(1), true)
	wantAsk(t, "a law with nothing", impl.GateLaw{}, askEnd("stone", "s"), false)
}

func wantMay(t *testing.T, what string, b impl.GateBook, who string, a impl.GateAct, want bool) {
	t.Helper()
	if got := impl.GateMay(passLaw(), b, who, a); got != want {
		t.Errorf("%s: GateMay(%q, %+v) = %v", what, who, a, got)
	}
}

func TestMay(t *testing.T) {
	b := passBook()
	wantBook(t, "the book", passLaw(), b, true)
	for _, verb := range allVerbs() {
		wantMay(t, "all", b, "ann", act(verb, "barge", "dock", "z"), true)
		wantMay(t, "what is not there", b, "ann", act(verb, "none", "none", ""), true)
		wantMay(t, "nobody", b, "", act(verb, "barge", "dock", "z"), false)
		wantMay(t, "no grant", b, "eve", act(verb, "barge", "dock", "z"), false)
		wantMay(t, "no name", b, "No Name", act(verb, "barge", "dock", "z"), false)
	}
	for _, verb := range []int{impl.GateTake, 0, -1, 7, 64, 65, 1 << 40} {
		wantMay(t, "no verb of rules", b, "ann", act(verb, "barge", "dock", "z"), false)
	}
	wantMay(t, "one rule", b, "bob", act(1, "barge", "dock", "b"), true)
	wantMay(t, "a team under it", b, "bob", act(2, "barge", "gang", "bx"), true)
	wantMay(t, "another verb", b, "bob", act(3, "barge", "dock", "b"), false)
	wantMay(t, "another kind", b, "bob", act(1, "rope", "dock", "b"), false)
	wantMay(t, "a team over it", b, "bob", act(1, "barge", "yard", "b"), false)
	wantMay(t, "another name", b, "bob", act(1, "barge", "dock", "a"), false)
	wantMay(t, "the first of several", b, "cy", act(3, "barge", "mill", "z"), true)
	wantMay(t, "the second of several", b, "cy", act(4, "rope", "gang", "z"), true)
	wantMay(t, "the last of several", b, "cy", act(5, "rope", "shed", "b"), true)
	wantMay(t, "none of several, though each has a part", b, "cy", act(2, "barge", "yard", "b"), false)
}

func TestNobodyMayInAWrongBook(t *testing.T) {
	a := act(1, "crate", "dock", "b")
	if !impl.GateMay(storeLaw(), storeBook(), "ann", a) || !impl.GateMay(storeLaw(), storeBook(), "bob", a) {
		t.Fatal("the store's grants allow it")
	}
	for what, b := range wrongBooks() {
		if impl.GateMay(storeLaw(), b, "ann", a) || impl.GateMay(storeLaw(), b, "bob", a) {
			t.Errorf("%s: somebody may", what)
		}
	}
	for what, l := range wrongLaws() {
		b := impl.GateBook{Now: 1, Given: 1, Grants: manyGrants(1)}
		if impl.GateMay(l, b, "ann", a) || impl.GateMay(l, storeBook(), "ann", a) {
			t.Errorf("%s: somebody may", what)
		}
	}
}

// The book is nothing where it, the law or the door is not ok, whatever is asked.
func TestPassOfWhatIsNotOk(t *testing.T) {
	asks := maps.Clone(goodAsks())
	asks["nothing"] = impl.GateAsk{}
	for what, a := range asks {
		for _, s := range notNames() {
			wantNothing(t, what+", door "+s, passLaw(), passBook(), s, a, 1)
		}
		wrong := passBook()
		wrong.Ledgers[5].Free++
		wantNothing(t, what+", one more free", passLaw(), wrong, "d", a, 1)
	}
	for what, b := range wrongBooks() {
		wantNothing(t, what, storeLaw(), b, "d", askMake("stone", "z", "dock"), 1)
		wantNothing(t, what, storeLaw(), b, "", impl.GateAsk{}, 1)
	}
	for what, l := range wrongLaws() {
		wantNothing(t, what, l, storeBook(), "d", askMake("stone", "z", "dock"), 1)
	}
	for _, s := range goodNames() {
		if _, said := impl.GatePass(passLaw(), passBook(), s, askEnd("barge", "a")); said.Code != 0 {
			t.Errorf("door %q: %+v", s, said)
		}
	}
}
