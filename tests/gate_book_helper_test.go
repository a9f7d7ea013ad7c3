package tests

import (
	"slices"
	"strconv"
	"testing"

	"loop.example/wharfhall/impl"
)

// storeShapes has a kind that weighs by several fields, one of them by two; one
// that weighs of its own Kind and of another one's by fields; and one without fields.
func storeShapes() []impl.GateShape {
	crate := impl.GateShape{Kind: "crate", Fields: []impl.GateField{
		{Name: "load", Kind: impl.GateNumber, Least: 0, Most: impl.GateMaxNumber, Must: true, Weighs: "tons"},
		{Name: "extra", Kind: impl.GateNumber, Least: 0, Most: 100, Default: "2", Weighs: "tons"},
		{Name: "area", Kind: impl.GateNumber, Least: 0, Most: 50, Weighs: "area"},
		{Name: "mode", Kind: impl.GateWord, Words: []string{"big", "small"}},
		{Name: "on", Kind: impl.GateLink, To: "pier", Role: impl.GateHolds},
		{Name: "by", Kind: impl.GateLink, To: "crate", Role: impl.GateLeans},
	}}
	pier := impl.GateShape{Kind: "pier", Fields: []impl.GateField{
		{Name: "length", Kind: impl.GateNumber, Least: 1, Most: 500, Default: "10", Weighs: "pier"},
		{Name: "room", Kind: impl.GateNumber, Least: 0, Most: 9, Weighs: "crate"},
		{Name: "note", Kind: impl.GateNumber, Least: 0, Most: 9},
		{Name: "part", Kind: impl.GateLink, To: "pier", Role: impl.GateOwned},
	}}
	return []impl.GateShape{crate, pier, {Kind: "stone"}}
}

func storeLaw() impl.GateLaw {
	mends := []impl.GateMend{{Kind: "crate", Field: "area", When: "mode", Is: "big", Put: "9"}}
	return impl.GateLaw{Shapes: storeShapes(), Mends: mends, Teams: yardTeams()}
}

func crate(name, team string, version int, values ...string) impl.GateObject {
	return impl.GateObject{Kind: "crate", Name: name, Team: team, Values: values, Version: version}
}

func stone(name, team string) impl.GateObject {
	return impl.GateObject{Kind: "stone", Name: name, Team: team, Version: 1}
}

func grant(number int, to, by string, r impl.GateRule) impl.GateGrant {
	return impl.GateGrant{Number: number, To: to, By: by, Rule: r}
}

func ledger(team, resource string, most, free int) impl.GateLedger {
	return impl.GateLedger{Team: team, Resource: resource, Most: most, Free: free}
}

func purse(door, team, resource string, amount, until int) impl.GatePurse {
	return impl.GatePurse{Door: door, Team: team, Resource: resource, Amount: amount, Until: until}
}

// storeBook is an ok book. Of dock's tons 17 are used and 3 are drawn, of
// gang's all 12 are used; of yard's crates 6 are used (4 of them by a pier) and
// 3 are drawn, of its piers 11 are used.
func storeBook() impl.GateBook {
	p1 := impl.GateObject{Kind: "pier", Name: "p1", Team: "yard", Values: []string{"10", "4", "7", ""}, Version: 1, Ending: true, Holds: []string{"fleet", "tax"}}
	return impl.GateBook{Now: 20, Tick: 5, Given: 7,
		Objects: []impl.GateObject{
			crate("a", "gang", 3, "10", "2", "", "small", "p1", ""),
			crate("b", "dock", 20, "5", "0", "9", "big", "", "a"),
			crate("c", "mill", 2, "7", "1", "3", "", "", ""),
			p1,
			stone("s", "shed"),
		},
		Grants: []impl.GateGrant{grant(1, "ann", "", openRule()), grant(7, "bob", "ann", rule(verbs(1, 3), "crate", "dock", "b"))},
		Ledgers: []impl.GateLedger{
			ledger("dock", "tons", 30, 10),
			ledger("gang", "tons", 12, 0),
			ledger("mill", "area", 100, 97),
			ledger("yard", "crate", 9, 0),
			ledger("yard", "pier", 20, 9),
		},
		Purses: []impl.GatePurse{
			purse("d1", "dock", "tons", 3, 5),
			purse("d1", "yard", "crate", 1, 15),
			purse("d2", "yard", "crate", 2, 9),
		},
	}
}

// bareBook has room for all and nothing in it.
func bareBook() impl.GateBook {
	return impl.GateBook{Now: impl.GateMaxVersion, Given: impl.GateMaxVersion}
}

// manyStones are n objects of dock.
func manyStones(n int) []impl.GateObject {
	list := make([]impl.GateObject, n)
	for i, name := range names(n) {
		list[i] = stone(name, "dock")
	}
	return list
}

// manyLedgers are n ledgers of dock that bound what nothing weighs.
func manyLedgers(n int) []impl.GateLedger {
	list := make([]impl.GateLedger, n)
	for i, name := range names(n) {
		list[i] = ledger("dock", name, 50, 50)
	}
	return list
}

// manyPurses makes a book with one ledger, of which n doors have drawn 2 each.
func manyPurses(n int) impl.GateBook {
	b := bareBook()
	b.Ledgers = []impl.GateLedger{ledger("dock", "tons", 100, 100-2*n)}
	for _, name := range names(n) {
		b.Purses = append(b.Purses, purse(name, "dock", "tons", 2, 3))
	}
	return b
}

func manyGrants(n int) []impl.GateGrant {
	list := make([]impl.GateGrant, n)
	for i := range list {
		list[i] = grant(i+1, "ann", "", openRule())
	}
	return list
}

// sameBook holds a nil list and an empty one to be the same.
func sameBook(a, b impl.GateBook) bool {
	sameGrant := func(x, y impl.GateGrant) bool {
		return x.Number == y.Number && x.To == y.To && x.By == y.By && x.Rule.Kind == y.Rule.Kind &&
			x.Rule.Team == y.Rule.Team && x.Rule.Prefix == y.Rule.Prefix && slices.Equal(x.Rule.Verbs, y.Rule.Verbs)
	}
	return a.Now == b.Now && a.Tick == b.Tick && a.Given == b.Given &&
		slices.EqualFunc(a.Objects, b.Objects, sameObject) && slices.EqualFunc(a.Grants, b.Grants, sameGrant) &&
		slices.Equal(a.Ledgers, b.Ledgers) && slices.Equal(a.Purses, b.Purses)
}

// bookCopy shares no memory with the book that it is of.
func bookCopy(b impl.GateBook) impl.GateBook {
	b.Objects = slices.Clone(b.Objects)
	for i, o := range b.Objects {
		b.Objects[i].Values, b.Objects[i].Holds = slices.Clone(o.Values), slices.Clone(o.Holds)
	}
	b.Grants = slices.Clone(b.Grants)
	for i, g := range b.Grants {
		b.Grants[i].Rule.Verbs = slices.Clone(g.Rule.Verbs)
	}
	b.Ledgers, b.Purses = slices.Clone(b.Ledgers), slices.Clone(b.Purses)
	return b
}

func wantBook(t *testing.T, what string, l impl.GateLaw, b impl.GateBook, want bool) {
	t.Helper()
	if got := impl.GateBookOk(l, b); got != want {
		t.Errorf("%s: GateBookOk of %+v = %v", what, b, got)
	}
}

// wrongLaws are laws that are not ok, by what is wrong with them.
func wrongLaws() map[string]impl.GateLaw {
	shapes, mends, twice := storeLaw(), storeLaw(), storeLaw()
	shapes.Shapes[2].Kind = "Stone"
	mends.Mends[0].Put = "51"
	twice.Shapes = slices.Insert(twice.Shapes, 1, twice.Shapes[0])
	out := map[string]impl.GateLaw{"a shape": shapes, "a mend": mends, "two shapes of a kind": twice, "mends without shapes": {Mends: mends.Mends}}
	for what, teams := range wrongTeams() {
		l := storeLaw()
		l.Teams = teams
		out["teams: "+what] = l
	}
	return out
}

// spoiled is an ok book in which one thing is turned wrong.
func spoiled(spoil func(b *impl.GateBook)) impl.GateBook {
	b := storeBook()
	spoil(&b)
	return b
}

// wrongBooks are books that are not ok by the law of the store, by what is wrong with them.
func wrongBooks() map[string]impl.GateBook {
	out := map[string]impl.GateBook{}
	for what, spoil := range bookSpoilers() {
		out[what] = spoiled(spoil)
	}
	for what, o := range wrongObjects() {
		b := bareBook()
		b.Objects = []impl.GateObject{crate("a", "dock", 1, "1", "1", "1", "", "", ""), o, stone("s", "shed")}
		out["object: "+what] = b
	}
	for what, r := range wrongRules() {
		out["rule: "+what] = spoiled(func(b *impl.GateBook) { b.Grants[1].Rule = r })
	}
	for _, s := range notNames() {
		out["to whom: "+s] = spoiled(func(b *impl.GateBook) { b.Grants[0].To = s })
		if s != "" {
			out["by whom: "+s] = spoiled(func(b *impl.GateBook) { b.Grants[0].By = s })
		}
		one := manyPurses(1)
		one.Purses[0].Door = s
		out["door: "+s] = one
		resource := bareBook()
		resource.Ledgers = []impl.GateLedger{ledger("dock", s, 5, 5)}
		out["resource: "+s] = resource
		team := bareBook()
		team.Ledgers = []impl.GateLedger{ledger(s, "tons", 5, 5)}
		out["team: "+s] = team
	}
	for what, b := range fullBooks(1) {
		out["too many "+what] = b
	}
	return out
}

// fullBooks are books whose lists are as long as they may be, and longer by more.
func fullBooks(more int) map[string]impl.GateBook {
	objects, grants, ledgers := bareBook(), bareBook(), bareBook()
	objects.Objects = manyStones(impl.GateMaxObjects + more)
	grants.Grants = manyGrants(impl.GateMaxGrants + more)
	ledgers.Ledgers = manyLedgers(impl.GateMaxLedgers + more)
	return map[string]impl.GateBook{"objects": objects, "grants": grants, "ledgers": ledgers, "purses": manyPurses(impl.GateMaxPurses + more)}
}

// wrongObjects may stand behind the crate a and ahead of a stone in a book, but for what is wrong with them.
func wrongObjects() map[string]impl.GateObject {
	holds := crate("b", "dock", 1, "1", "1", "1", "", "", "")
	holds.Holds = []string{"b", "a"}
	many := holds
	many.Holds = names(impl.GateMaxHolds + 1)
	return map[string]impl.GateObject{
		"a kind without a shape":          {Kind: "plank", Name: "p", Team: "dock", Version: 1},
		"no kind that is a name":          {Kind: "o o", Name: "p", Team: "dock", Version: 1},
		"a name that is none":             crate("b_", "dock", 1, "1", "1", "1", "", "", ""),
		"a long name":                     crate(long(impl.GateMaxName+1), "dock", 1, "1", "1", "1", "", "", ""),
		"a team that is none":             crate("b", "docks", 1, "1", "1", "1", "", "", ""),
		"a team that is no name":          crate("b", "", 1, "1", "1", "1", "", "", ""),
		"the name of the one ahead":       crate("a", "dock", 1, "1", "1", "1", "", "", ""),
		"a name that goes down":           crate("0", "dock", 1, "1", "1", "1", "", "", ""),
		"a stone behind another":          stone("t", "dock"),
		"one value too few":               crate("b", "dock", 1, "1", "1", "1", "", ""),
		"one value too many":              crate("b", "dock", 1, "1", "1", "1", "", "", "", ""),
		"no values":                       crate("b", "dock", 1),
		"what must be set is not":         crate("b", "dock", 1, "", "1", "1", "", "", ""),
		"a value that does not fit":       crate("b", "dock", 1, "1", "101", "1", "", "", ""),
		"a value that is no decimal":      crate("b", "dock", 1, "01", "1", "1", "", "", ""),
		"a value that would be filled":    crate("b", "dock", 1, "1", "", "1", "", "", ""),
		"a value that would be mended":    crate("b", "dock", 1, "1", "1", "8", "big", "", ""),
		"an unset one that would be":      crate("b", "dock", 1, "1", "1", "", "big", "", ""),
		"a link to what is not there":     crate("b", "dock", 1, "1", "1", "1", "", "p1", ""),
		"a link to what another kind has": crate("b", "dock", 1, "1", "1", "1", "", "a", ""),
		"a link to a stone's name":        crate("b", "dock", 1, "1", "1", "1", "", "", "s"),
		"a bad link ahead of a good one":  crate("b", "dock", 1, "1", "1", "1", "", "p1", "a"),
		"a link that owns to none":        {Kind: "pier", Name: "p1", Team: "dock", Values: []string{"1", "", "", "p2"}, Version: 1},
		"the version 0":                   crate("b", "dock", 0, "1", "1", "1", "", "", ""),
		"the version -1":                  crate("b", "dock", -1, "1", "1", "1", "", "", ""),
		"a version above all":             crate("b", "dock", impl.GateMaxVersion+1, "1", "1", "1", "", "", ""),
		"holds that go down":              holds,
		"a hold too many":                 many,
	}
}

// bookSpoilers each turn one thing of the store's book wrong.
func bookSpoilers() map[string]func(b *impl.GateBook) {
	return map[string]func(b *impl.GateBook){
		"Now -1":                      func(b *impl.GateBook) { *b = impl.GateBook{Now: -1, Given: -1} },
		"Now above all":               func(b *impl.GateBook) { b.Now = impl.GateMaxVersion + 1 },
		"Tick -1":                     func(b *impl.GateBook) { *b = impl.GateBook{Tick: -1} },
		"Tick above all":              func(b *impl.GateBook) { *b = impl.GateBook{Tick: impl.GateMaxNumber + 1} },
		"Given -1":                    func(b *impl.GateBook) { b.Given, b.Grants = -1, nil },
		"Given above Now":             func(b *impl.GateBook) { b.Given = b.Now + 1 },
		"a version above Now":         func(b *impl.GateBook) { b.Objects[1].Version = b.Now + 1 },
		"objects turned around":       func(b *impl.GateBook) { b.Objects[0], b.Objects[1] = b.Objects[1], b.Objects[0] },
		"kinds turned around":         func(b *impl.GateBook) { b.Objects[3], b.Objects[4] = b.Objects[4], b.Objects[3] },
		"a good link, then a bad one": func(b *impl.GateBook) { b.Objects[0].Values[5] = "d" },
		"what a link named is gone":   func(b *impl.GateBook) { b.Objects = slices.Delete(b.Objects, 3, 4); b.Ledgers = nil; b.Purses = nil },
		"a grant's number 0":          func(b *impl.GateBook) { b.Grants[0].Number = 0 },
		"a grant's number above":      func(b *impl.GateBook) { b.Grants[1].Number = b.Given + 1 },
		"a grant's number twice":      func(b *impl.GateBook) { b.Grants[0].Number = 7 },
		"grants turned around":        func(b *impl.GateBook) { b.Grants[0], b.Grants[1] = b.Grants[1], b.Grants[0] },
		"a ledger of no team":         func(b *impl.GateBook) { b.Ledgers[2] = ledger("milk", "area", 100, 100) },
		"a ledger twice":              func(b *impl.GateBook) { b.Ledgers = slices.Insert(b.Ledgers, 1, b.Ledgers[0]) },
		"ledgers turned around":       func(b *impl.GateBook) { b.Ledgers[1], b.Ledgers[2] = b.Ledgers[2], b.Ledgers[1] },
		"resources turned around":     func(b *impl.GateBook) { b.Ledgers[3], b.Ledgers[4] = b.Ledgers[4], b.Ledgers[3] },
		"Free below 0":                func(b *impl.GateBook) { b.Ledgers[1] = ledger("gang", "tons", 11, -1) },
		"Most above all": func(b *impl.GateBook) {
			b.Ledgers[2] = ledger("mill", "area", impl.GateMaxNumber+1, impl.GateMaxNumber-2)
		},
		"Most below 0":                func(b *impl.GateBook) { b.Ledgers[2] = ledger("mill", "lead", -1, -1) },
		"one more free":               func(b *impl.GateBook) { b.Ledgers[0].Free++ },
		"one less free":               func(b *impl.GateBook) { b.Ledgers[0].Free-- },
		"the last ledger's sum":       func(b *impl.GateBook) { b.Ledgers[4].Most++ },
		"one more drawn":              func(b *impl.GateBook) { b.Purses[2].Amount++ },
		"all in one ledger's purse":   func(b *impl.GateBook) { b.Purses[1].Amount, b.Purses[2].Amount = 3, 1 },
		"one more used":               func(b *impl.GateBook) { b.Objects[0].Values[1] = "3" },
		"used where nothing is free":  func(b *impl.GateBook) { b.Objects[2].Team = "gang" },
		"a purse twice":               func(b *impl.GateBook) { b.Purses[2] = b.Purses[1]; b.Ledgers[3].Free = 1 },
		"purses' doors turned around": func(b *impl.GateBook) { b.Purses[1], b.Purses[2] = b.Purses[2], b.Purses[1] },
		"purses' teams turned around": func(b *impl.GateBook) { b.Purses[0], b.Purses[1] = b.Purses[1], b.Purses[0] },
		"purses' resources turned around": func(b *impl.GateBook) {
			b.Ledgers[4].Free = 8
			b.Purses = []impl.GatePurse{b.Purses[0], purse("d1", "yard", "pier", 1, 9), b.Purses[1], b.Purses[2]}
		},
		"a purse of no ledger's team":     func(b *impl.GateBook) { b.Purses = append(b.Purses, purse("d3", "shed", "tons", 1, 9)) },
		"a purse of no ledger's resource": func(b *impl.GateBook) { b.Purses = append(b.Purses, purse("d3", "yard", "stone", 1, 9)) },
		"an empty purse":                  func(b *impl.GateBook) { b.Purses = append(b.Purses, purse("d3", "yard", "pier", 0, 9)) },
		"a purse below 0":                 func(b *impl.GateBook) { b.Purses[1].Amount, b.Purses[2].Amount = 4, -1 },
		"a purse above all":               func(b *impl.GateBook) { b.Purses[2].Amount = impl.GateMaxNumber + 1 },
		"Until below Tick":                func(b *impl.GateBook) { b.Purses[0].Until = 4 },
		"Until too far":                   func(b *impl.GateBook) { b.Purses[1].Until = 16 },
	}
}

func count(n int) string {
	return strconv.Itoa(n)
}
