package tests

import (
	"testing"

	"loop.example/wharfhall/impl"
)

func TestAllGoodAsksAreDone(t *testing.T) {
	for what, a := range goodAsks() {
		if !impl.GateAskOk(passLaw(), a) {
			t.Errorf("%s: not ok: %+v", what, a)
		}
		if _, said := impl.GatePass(passLaw(), passBook(), "d", a); said != (impl.GateSaid{Version: 21}) {
			t.Errorf("%s: %+v", what, said)
		}
	}
}

// A barge of gang is made: what is not set is filled, then mended; all ledgers over it are paid, those of teams over
// its own too, and those of other teams and resources are not; the purse that has nothing left is gone.
func TestPassMakes(t *testing.T) {
	b, want := passBook(), passBook()
	stand(&want, held(barge("bb", "gang", 0, "3", "2", "red", "9", "p", "a"), "fleet"))
	pay(&want, "d", "dock", "barge", 1)
	pay(&want, "d", "dock", "tons", 12)
	pay(&want, "d", "gang", "tons", 12)
	pay(&want, "d", "yard", "barge", 1)
	pay(&want, "d", "yard", "hands", 2)
	if len(want.Purses) != len(b.Purses)-1 {
		t.Fatal("the purse of gang's tons was to be gone")
	}
	wantPass(t, "make", b, "d", holding(askMake("barge", "bb", "gang", "3", "", "red", "", "p", "a"), "fleet"), want)
}

// Where no ledger bounds it, an object is made through any door.
func TestPassMakesWhatIsNotBound(t *testing.T) {
	b, want := passBook(), passBook()
	stand(&want, impl.GateObject{Kind: "rope", Name: "s", Team: "dock"})
	wantPass(t, "a rope", b, "none", askMake("rope", "s", "dock"), want)
	want = passBook()
	stand(&want, barge("z", "mill", 0, "0", "50", "", "", "", ""))
	wantPass(t, "a barge that weighs nothing that is bound", b, "none", askMake("barge", "z", "mill", "0", "50", "", "", "", ""), want)
	empty := impl.GateBook{Grants: b.Grants, Given: 8, Now: 8}
	want = bookCopy(empty)
	stand(&want, barge("z", "dock", 0, "99", "2", "", "", "", ""))
	wantPass(t, "without ledgers", empty, "none", askMake("barge", "z", "dock", "99", "", "", "", "", ""), want)
}

// An object may be made ahead of, between and behind the others.
func TestPassMakesInOrder(t *testing.T) {
	for _, name := range []string{"0", "bb", "z"} {
		want := passBook()
		stand(&want, barge(name, "shed", 0, "1", "0", "", "", "", ""))
		pay(&want, "d", "yard", "barge", 1)
		wantPass(t, name, passBook(), "d", askMake("barge", name, "shed", "1", "0", "", "", "", ""), want)
	}
}

// What weighs more is paid by the door, what weighs less is free, in one change.
func TestPassChanges(t *testing.T) {
	b, want := passBook(), passBook()
	stand(&want, held(barge("b", "dock", 0, "4", "6", "red", "9", "p", ""), "h", "tax"))
	ledgerOf(&want, "dock", "tons").Free++
	pay(&want, "d", "yard", "hands", 6)
	wantPass(t, "change", b, "d", askChange("barge", "b", "4", "6", "red", "", "p", ""), want)
}

func TestPassChangesWhatWeighsLess(t *testing.T) {
	want := passBook()
	stand(&want, barge("a", "gang", 0, "0", "0", "", "", "p", ""))
	ledgerOf(&want, "dock", "tons").Free += 10
	ledgerOf(&want, "gang", "tons").Free += 10
	ledgerOf(&want, "yard", "hands").Free += 2
	wantPass(t, "less, through a door without purses", passBook(), "none", askChange("barge", "a", "0", "0", "", "", "p", ""), want)
}

// A field that is Fixed may be set where it was not; a mend that it brings counts for what the object weighs.
func TestPassChangesByAMend(t *testing.T) {
	b, want := passBook(), passBook()
	stand(&want, barge("a", "gang", 0, "1", "2", "red", "9", "p", ""))
	wantPass(t, "the same weight", b, "none", askChange("barge", "a", "1", "", "red", "77", "p", ""), want)
	want = passBook()
	stand(&want, barge("a", "gang", 0, "10", "2", "red", "9", "p", ""))
	pay(&want, "d", "dock", "tons", 9)
	pay(&want, "d", "gang", "tons", 9)
	wantPass(t, "more by the mend", b, "d", askChange("barge", "a", "10", "2", "red", "", "p", ""), want)
}

func TestPassEnds(t *testing.T) {
	want := passBook()
	stand(&want, ending(held(barge("b", "dock", 0, "5", "0", "red", "9", "", "a"), "h", "tax")))
	wantPass(t, "end", passBook(), "none", askEnd("barge", "b"), want)
}

// A hold is let go of what is Ending and of what is not.
func TestPassLetsGo(t *testing.T) {
	want := passBook()
	stand(&want, held(barge("b", "dock", 0, "5", "0", "red", "9", "", "a"), "tax"))
	wantPass(t, "the first of two", passBook(), "none", askLetGo("barge", "b", "h"), want)
	want = passBook()
	stand(&want, held(barge("b", "dock", 0, "5", "0", "red", "9", "", "a"), "h"))
	wantPass(t, "the last of two", passBook(), "none", askLetGo("barge", "b", "tax"), want)
	want = passBook()
	stand(&want, ending(barge("e", "dock", 0, "1", "1", "", "", "", "")))
	wantPass(t, "of what is Ending", passBook(), "none", askLetGo("barge", "e", "h"), want)
}

func TestPassGives(t *testing.T) {
	r := rule(verbs(1, 5), "barge", "none", "c")
	want := passBook()
	want.Now, want.Given = 21, 21
	want.Grants = append(want.Grants, grant(21, "dee", "ann", r))
	wantPass(t, "give", passBook(), "none", askGive("dee", r), want)
	want.Grants[5] = grant(21, "ann", "ann", r)
	wantPass(t, "to oneself", passBook(), "none", askGive("ann", r), want)
}

func TestPassTakes(t *testing.T) {
	for i, number := range []int{1, 2, 3, 5, 8} {
		want := passBook()
		want.Now, want.Given = 21, 21
		want.Grants = append(want.Grants[:i:i], want.Grants[i+1:]...)
		wantPass(t, "take "+count(number), passBook(), "none", askTake(number), want)
	}
}

// The first change of a book that has none gets the version 1.
func TestPassInABookWithoutVersions(t *testing.T) {
	wantCode(t, "nobody may", impl.GateBook{}, "d", askMake("rope", "r", "dock"), 4)
	b := impl.GateBook{Now: 1, Given: 1, Grants: []impl.GateGrant{grant(1, "ann", "", openRule())}}
	want := impl.GateBook{Now: 2, Given: 2}
	wantPass(t, "the last grant", b, "d", askTake(1), want)
}

func TestPassMissesWhatIsAskedFor(t *testing.T) {
	b := passBook()
	wantCode(t, "an object is there", b, "d", askMake("barge", "a", "dock", "1", "", "", "", "", ""), 3)
	wantCode(t, "one that is Ending is there", b, "d", askMake("barge", "e", "dock", "1", "", "", "", "", ""), 3)
	wantCode(t, "one in another team is there", b, "d", askMake("rope", "r", "dock"), 3)
	for _, name := range []string{"0", "aa", "p", "zz"} {
		wantCode(t, "no barge to change: "+name, b, "d", askChange("barge", name, "1", "", "", "", "", ""), 3)
		wantCode(t, "no barge to end: "+name, b, "d", askEnd("barge", name), 3)
		wantCode(t, "no barge to let go: "+name, b, "d", askLetGo("barge", name, "h"), 3)
	}
	for _, number := range []int{4, 6, 7, 9, 20, 21, 1 << 40} {
		wantCode(t, "no grant "+count(number), b, "d", askTake(number), 3)
	}
	want := passBook()
	stand(&want, impl.GateObject{Kind: "rope", Name: "a", Team: "dock"})
	wantPass(t, "another kind has that name", b, "d", askMake("rope", "a", "dock"), want)
}

// The team is the object's own, or that of the ask where it is made.
func TestPassRights(t *testing.T) {
	b := passBook()
	for what, c := range map[string]struct {
		a    impl.GateAsk
		code int
	}{
		"bob makes in dock":             {byWho(askMake("barge", "b2", "dock", "1", "0", "", "", "", ""), "bob"), 0},
		"bob makes under dock":          {byWho(askMake("barge", "b2", "gang", "1", "0", "", "", "", ""), "bob"), 0},
		"bob makes over dock":           {byWho(askMake("barge", "b2", "yard", "1", "0", "", "", "", ""), "bob"), 4},
		"bob makes beside dock":         {byWho(askMake("barge", "b2", "shed", "1", "0", "", "", "", ""), "bob"), 4},
		"bob makes another name":        {byWho(askMake("barge", "c2", "dock", "1", "0", "", "", "", ""), "bob"), 4},
		"bob makes a rope":              {byWho(askMake("rope", "b2", "dock"), "bob"), 4},
		"bob changes his barge":         {byWho(askChange("barge", "b", "5", "0", "red", "9", "", "a"), "bob"), 0},
		"bob changes another":           {byWho(askChange("barge", "c", "1", "1", "", "", "q", "e"), "bob"), 4},
		"bob ends":                      {byWho(askEnd("barge", "b"), "bob"), 4},
		"bob lets go":                   {byWho(askLetGo("barge", "b", "h"), "bob"), 4},
		"cy makes by one rule":          {byWho(askMake("barge", "z", "shed", "1", "0", "", "", "", ""), "cy"), 0},
		"cy ends by it":                 {byWho(askEnd("barge", "c"), "cy"), 0},
		"cy changes by another":         {byWho(askChange("barge", "a", "1", "0", "", "", "p", ""), "cy"), 0},
		"cy lets go by another":         {byWho(askLetGo("barge", "b", "h"), "cy"), 0},
		"cy lets go outside of dock":    {byWho(askLetGo("rope", "r", "h"), "cy"), 4},
		"eve has no grant":              {byWho(askEnd("barge", "c"), "eve"), 4},
		"one whose name begins so":      {byWho(askEnd("barge", "c"), "an"), 4},
		"one whose name goes on":        {byWho(askEnd("barge", "c"), "anna"), 4},
		"one who gave, and has nothing": {byWho(askEnd("barge", "c"), "dock"), 4},
	} {
		if _, said := impl.GatePass(passLaw(), b, "d", c.a); said.Code != c.code {
			t.Errorf("%s: %+v", what, said)
		}
	}
}

// giveCases are rules with whether cy could give them: cy may make and end barges, change and let go in dock, and
// give in yard what begins with b.
func giveCases() map[string]struct {
	r  impl.GateRule
	ok bool
} {
	return map[string]struct {
		r  impl.GateRule
		ok bool
	}{
		"by one rule and giving":           {rule(verbs(1), "barge", "yard", "b"), true},
		"by two rules and giving":          {rule(verbs(1, 2, 3, 4), "barge", "dock", "b"), true},
		"with giving among the verbs":      {rule(verbs(1, 2, 3, 4, 5), "barge", "gang", "bx"), true},
		"giving alone":                     {rule(verbs(5), "", "shed", "b"), true},
		"giving alone, of too much":        {rule(verbs(5), "", "", "b"), false},
		"giving does not reach the prefix": {rule(verbs(1), "barge", "yard", ""), false},
		"giving does not reach the name":   {rule(verbs(1), "barge", "yard", "c"), false},
		"giving does not reach the team":   {rule(verbs(1), "barge", "mill", "b"), false},
		"giving does not reach all teams":  {rule(verbs(1), "barge", "", "b"), false},
		"one verb is not reached":          {rule(verbs(1, 2), "barge", "yard", "b"), false},
		"all kinds are not reached":        {rule(verbs(1, 2), "", "dock", "b"), false},
		"all kinds are":                    {rule(verbs(2, 4), "", "dock", "b"), true},
	}
}

func TestPassGivesWhatIsCoveredWithGiving(t *testing.T) {
	for what, c := range giveCases() {
		_, said := impl.GatePass(passLaw(), passBook(), "d", byWho(askGive("dee", c.r), "cy"))
		if want := map[bool]int{true: 0, false: 4}[c.ok]; said.Code != want {
			t.Errorf("%s: %+v", what, said)
		}
	}
	// bob may do what he would give, but not give it.
	wantCode(t, "no giving at all", passBook(), "d", byWho(askGive("dee", rule(verbs(1), "barge", "dock", "b")), "bob"), 4)
	wantCode(t, "no grant at all", passBook(), "d", byWho(askGive("eve", rule(verbs(1), "barge", "dock", "b")), "eve"), 4)
}

// What one could give one may take, whoever gave it; what one gave one may take, whatever it is.
func TestPassTakesWhatIsCoveredOrGiven(t *testing.T) {
	for what, c := range giveCases() {
		b := passBook()
		b.Grants[1].Rule = c.r
		_, said := impl.GatePass(passLaw(), b, "d", byWho(askTake(2), "cy"))
		if want := map[bool]int{true: 0, false: 4}[c.ok]; said.Code != want {
			t.Errorf("%s: %+v", what, said)
		}
		b.Grants[1].By = ""
		_, said = impl.GatePass(passLaw(), b, "d", byWho(askTake(2), "cy"))
		if want := map[bool]int{true: 0, false: 4}[c.ok]; said.Code != want {
			t.Errorf("%s, by nobody: %+v", what, said)
		}
		b.Grants[1].By = "cy"
		if _, said := impl.GatePass(passLaw(), b, "d", byWho(askTake(2), "cy")); said.Code != 0 {
			t.Errorf("%s, by cy: %+v", what, said)
		}
	}
	// bob gave 5, and has not what is in it; 3 is not by him, and 2 is to him.
	want := passBook()
	want.Now, want.Given = 21, 21
	want.Grants = append(want.Grants[:3:3], want.Grants[4])
	wantPass(t, "bob takes back", passBook(), "d", byWho(askTake(5), "bob"), want)
	wantCode(t, "bob takes another's", passBook(), "d", byWho(askTake(3), "bob"), 4)
	wantCode(t, "bob takes his own", passBook(), "d", byWho(askTake(2), "bob"), 4)
	wantCode(t, "eve takes", passBook(), "d", byWho(askTake(2), "eve"), 4)
}

func TestPassSeen(t *testing.T) {
	b := passBook()
	change, end := askChange("barge", "c", "1", "1", "", "", "q", "e"), askEnd("barge", "c")
	for _, seen := range []int{1, 4, 6, 20, 21, 1000001, 1 << 40} {
		wantSaid(t, "change at "+count(seen), b, "d", seeing(change, seen), impl.GateSaid{Code: 5, Version: 5})
		wantSaid(t, "end at "+count(seen), b, "d", seeing(end, seen), impl.GateSaid{Code: 5, Version: 5})
	}
	changed, ended := passBook(), passBook()
	stand(&changed, barge("c", "dock", 0, "1", "1", "", "", "q", "e"))
	stand(&ended, ending(barge("c", "dock", 0, "1", "1", "", "", "q", "e")))
	for _, seen := range []int{0, 5} {
		wantPass(t, "change at "+count(seen), b, "d", seeing(change, seen), changed)
		wantPass(t, "end at "+count(seen), b, "d", seeing(end, seen), ended)
	}
	wantNothing(t, "change at -1", passLaw(), b, "d", seeing(change, -1), 2)
	wantNothing(t, "end at -1", passLaw(), b, "d", seeing(end, -1), 2)
}

func TestPassEnding(t *testing.T) {
	b := passBook()
	wantCode(t, "change", b, "d", askChange("barge", "e", "1", "1", "", "", "", ""), 6)
	wantCode(t, "end", b, "d", askEnd("barge", "e"), 6)
	wantCode(t, "end what has no holds", b, "d", askEnd("pier", "q"), 6)
}

// The object is checked as it would be: filled and mended.
func TestPassUnfit(t *testing.T) {
	b := passBook()
	at := func(place int) impl.GateSaid { return impl.GateSaid{Code: 7, Place: place} }
	for what, c := range map[string]struct {
		values []string
		place  int
	}{
		"what must be set":            {[]string{"", "1", "", "", "", ""}, 0},
		"a number too great":          {[]string{"1", "51", "", "", "", ""}, 1},
		"no decimal":                  {[]string{"1", "01", "", "", "", ""}, 1},
		"no word":                     {[]string{"1", "1", "green", "", "", ""}, 2},
		"what no mend puts right":     {[]string{"1", "1", "blue", "100", "", ""}, 3},
		"a link that is no name":      {[]string{"1", "1", "", "", "P", ""}, 4},
		"the last":                    {[]string{"1", "1", "", "", "p", "a b"}, 5},
		"the first of two":            {[]string{"1", "x", "x", "", "", ""}, 1},
		"unset ahead of unfit":        {[]string{"", "x", "", "", "", ""}, 0},
		"text of any bytes":           {[]string{"1", "\x00\xff", "", "", "", ""}, 1},
		"a long text":                 {[]string{long(500), "1", "", "", "", ""}, 0},
		"unfit where a link is loose": {[]string{"1", "1", "", "", "none", "A"}, 5},
	} {
		wantSaid(t, "make: "+what, b, "d", askMake("barge", "z", "dock", c.values...), at(c.place))
		wantSaid(t, "change: "+what, b, "d", askChange("barge", "c", c.values...), at(c.place))
	}
	wantSaid(t, "make: a link that must be set", b, "d", askMake("pier", "z", "mill", "", "", ""), at(0))
	wantSaid(t, "change: a link that must be set", b, "d", askChange("pier", "p", "", "", ""), at(0))
	want := passBook()
	stand(&want, barge("z", "shed", 0, "1", "0", "red", "9", "", ""))
	pay(&want, "d", "yard", "barge", 1)
	wantPass(t, "what a mend puts right", b, "d", askMake("barge", "z", "shed", "1", "0", "red", "no number", "", ""), want)
}

func TestPassFixed(t *testing.T) {
	b := passBook()
	said := impl.GateSaid{Code: 8, Place: 2}
	wantSaid(t, "another word", b, "d", askChange("barge", "b", "5", "0", "blue", "9", "", "a"), said)
	wantSaid(t, "no word", b, "d", askChange("barge", "b", "5", "0", "", "9", "", "a"), said)
	// A pier's part is Fixed, once it is set; q is Ending, so that another one is made for it.
	b.Objects[5].Ending = false
	wantSaid(t, "another link", b, "d", askChange("pier", "q", "r", "q", "1"), impl.GateSaid{Code: 8, Place: 1})
	wantSaid(t, "no link", b, "d", askChange("pier", "q", "r", "", "1"), impl.GateSaid{Code: 8, Place: 1})
	want := bookCopy(b)
	stand(&want, impl.GateObject{Kind: "pier", Name: "p", Team: "yard", Values: []string{"r", "q", ""}})
	wantPass(t, "a link that was not set", b, "d", askChange("pier", "p", "r", "q", ""), want)
}

func TestPassTies(t *testing.T) {
	b := passBook()
	at := func(place int) impl.GateSaid { return impl.GateSaid{Code: 9, Place: place} }
	for what, c := range map[string]struct {
		at, near string
		place    int
	}{
		"no such pier":               {"none", "", 4},
		"no such barge":              {"", "none", 5},
		"an Ending pier":             {"q", "", 4},
		"an Ending barge":            {"", "e", 5},
		"a barge's name, of a pier":  {"a", "", 4},
		"a pier's name, of a barge":  {"p", "p", 5},
		"both: the first":            {"q", "none", 4},
		"a good one, then a bad":     {"p", "e", 5},
		"a bad one, then a good":     {"none", "a", 4},
		"a rope's name, of a barge":  {"", "r", 5},
		"a name ahead of all barges": {"", "0", 5},
	} {
		wantSaid(t, "make: "+what, b, "d", askMake("barge", "z", "dock", "1", "0", "", "", c.at, c.near), at(c.place))
		wantSaid(t, "change: "+what, b, "d", askChange("barge", "a", "10", "2", "", "", c.at, c.near), at(c.place))
	}
	wantSaid(t, "itself, as long as it is not there", b, "d", askMake("barge", "z", "dock", "1", "0", "", "", "", "z"), at(5))
	want := passBook()
	stand(&want, barge("a", "gang", 0, "10", "2", "", "", "p", "a"))
	wantPass(t, "itself", b, "d", askChange("barge", "a", "10", "2", "", "", "p", "a"), want)
}

// The links of c name Ending ones: they may stay, and be emptied, and go elsewhere, each for itself.
func TestPassTiesThatAreAsBefore(t *testing.T) {
	b := passBook()
	for _, c := range [][2]string{{"q", "e"}, {"q", ""}, {"", "e"}, {"p", "e"}, {"q", "a"}, {"q", "c"}} {
		want := passBook()
		stand(&want, barge("c", "dock", 0, "1", "1", "", "", c[0], c[1]))
		wantPass(t, c[0]+" and "+c[1], b, "d", askChange("barge", "c", "1", "1", "", "", c[0], c[1]), want)
	}
	wantSaid(t, "the second is new", b, "d", askChange("barge", "c", "1", "1", "", "", "q", "none"), impl.GateSaid{Code: 9, Place: 5})
	wantSaid(t, "the first is new", b, "d", askChange("barge", "c", "1", "1", "", "", "none", "e"), impl.GateSaid{Code: 9, Place: 4})
}

// Each ledger over a barge of gang is the first that its door can't pay, by one.
func TestPassTooDear(t *testing.T) {
	a := askMake("barge", "z", "gang", "3", "2", "red", "", "", "")
	needs := map[int]int{0: 1, 1: 12, 2: 12, 4: 1, 5: 2}
	for at, need := range needs {
		b := passBook()
		g := b.Ledgers[at]
		mine := &b.Purses[purseCall{door: "d", team: g.Team, resource: g.Resource}.purseAt(&b)]
		mine.Amount = need
		enough := balanced(passLaw(), bookCopy(b))
		want := bookCopy(enough)
		stand(&want, barge("z", "gang", 0, "3", "2", "red", "9", "", ""))
		for other, amount := range needs {
			pay(&want, "d", b.Ledgers[other].Team, b.Ledgers[other].Resource, amount)
		}
		wantPass(t, "just enough for "+count(at), enough, "d", a, want)
		said := impl.GateSaid{Code: 10, Place: at}
		if need > 1 {
			mine.Amount = need - 1
			wantSaid(t, "one too few for "+count(at), balanced(passLaw(), bookCopy(b)), "d", a, said)
		}
		mine.Amount = need
		pay(&b, "d", g.Team, g.Resource, need)
		wantSaid(t, "no purse for "+count(at), balanced(passLaw(), b), "d", a, said)
	}
}

// The first ledger is told of several, another door's purse does not help, nor does what is free.
func TestPassTooDearForADoor(t *testing.T) {
	b := passBook()
	a := askMake("barge", "z", "gang", "3", "2", "red", "", "", "")
	wantSaid(t, "a door with no purses", b, "none", a, impl.GateSaid{Code: 10, Place: 0})
	wantSaid(t, "a door with some", b, "k", a, impl.GateSaid{Code: 10, Place: 1})
	wantSaid(t, "what weighs nothing of the first ones", b, "none", askMake("barge", "z", "yard", "3", "0", "", "", "", ""), impl.GateSaid{Code: 10, Place: 4})
	wantSaid(t, "a pier that is many barges", b, "d", askMake("pier", "z", "dock", "r", "", "3"), impl.GateSaid{Code: 10, Place: 0})
	wantSaid(t, "in the yard", b, "d", askMake("pier", "z", "yard", "r", "", "4"), impl.GateSaid{Code: 10, Place: 4})
	want := passBook()
	stand(&want, impl.GateObject{Kind: "pier", Name: "z", Team: "yard", Values: []string{"r", "", "3"}})
	pay(&want, "d", "yard", "barge", 3)
	wantPass(t, "just so many barges", b, "d", askMake("pier", "z", "yard", "r", "", "3"), want)
}

// A change is paid by what is more than before alone.
func TestPassChangesWhatWeighsMore(t *testing.T) {
	b := passBook()
	want := passBook()
	stand(&want, barge("c", "dock", 0, "2", "2", "", "", "q", "e"))
	pay(&want, "k", "dock", "tons", 1)
	pay(&want, "k", "yard", "hands", 1)
	wantPass(t, "just what the door has", b, "k", askChange("barge", "c", "2", "2", "", "", "q", "e"), want)
	wantSaid(t, "one ton too many", b, "k", askChange("barge", "c", "3", "2", "", "", "q", "e"), impl.GateSaid{Code: 10, Place: 1})
	wantSaid(t, "one ton too many by two fields", b, "k", askChange("barge", "c", "2", "2", "", "1", "q", "e"), impl.GateSaid{Code: 10, Place: 1})
	wantSaid(t, "one hand too many", b, "k", askChange("barge", "c", "2", "3", "", "", "q", "e"), impl.GateSaid{Code: 10, Place: 5})
	want = passBook()
	stand(&want, barge("c", "dock", 0, "0", "0", "", "2", "q", "e"))
	pay(&want, "k", "dock", "tons", 1)
	ledgerOf(&want, "yard", "hands").Free++
	wantPass(t, "more by one field, less by another", b, "k", askChange("barge", "c", "0", "0", "", "2", "q", "e"), want)
}

func TestPassHasNoRoom(t *testing.T) {
	full := passBook()
	for _, name := range names(impl.GateMaxObjects - len(full.Objects)) {
		full.Objects = append(full.Objects, impl.GateObject{Kind: "rope", Name: "s" + name, Team: "mill", Version: 1})
	}
	wantCode(t, "one object too many", full, "d", askMake("rope", "z", "dock"), 11)
	last := bookCopy(full)
	last.Objects = last.Objects[:impl.GateMaxObjects-1]
	want := bookCopy(last)
	stand(&want, impl.GateObject{Kind: "rope", Name: "z", Team: "dock"})
	wantPass(t, "the last object", last, "d", askMake("rope", "z", "dock"), want)

	given := passBook()
	given.Given, given.Grants = 20, manyGrants(impl.GateMaxGrants)
	given.Now, given.Given = 30, 30
	wantCode(t, "one grant too many", given, "d", askGive("bob", openRule()), 11)
	few := bookCopy(given)
	few.Grants = few.Grants[:impl.GateMaxGrants-1]
	want = bookCopy(few)
	want.Now, want.Given, want.Grants = 31, 31, append(want.Grants, grant(31, "bob", "ann", openRule()))
	wantPass(t, "the last grant", few, "d", askGive("bob", openRule()), want)

	for what, a := range goodAsks() {
		if what != "make" {
			if _, said := impl.GatePass(passLaw(), full, "d", a); said.Code != 0 {
				t.Errorf("%s where there are all objects: %+v", what, said)
			}
		}
		if a.Verb == impl.GateTake || a.Verb == impl.GateEnd {
			if _, said := impl.GatePass(passLaw(), given, "d", a); said.Code != 0 {
				t.Errorf("%s where there are all grants: %+v", what, said)
			}
		}
	}
}

func TestPassHasNoVersionLeft(t *testing.T) {
	for what, a := range goodAsks() {
		b := passBook()
		b.Now = impl.GateMaxVersion
		wantCode(t, what, b, "d", a, 11)
		b.Now--
		if _, said := impl.GatePass(passLaw(), b, "d", a); said != (impl.GateSaid{Version: impl.GateMaxVersion}) {
			t.Errorf("%s gets the last version: %+v", what, said)
		}
	}
}

func TestPassHasNoSuchHold(t *testing.T) {
	wantCode(t, "another one", passBook(), "d", askLetGo("barge", "b", "g"), 11)
	wantCode(t, "none at all", passBook(), "d", askLetGo("barge", "a", "h"), 11)
	wantCode(t, "a part of its name", passBook(), "d", askLetGo("barge", "b", "ta"), 11)
}
