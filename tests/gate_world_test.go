package tests

import (
	"slices"
	"testing"

	"loop.example/wharfhall/impl"
)

func TestWorldsThatAreOk(t *testing.T) {
	l := passLaw()
	wantWorld(t, "nothing", l, impl.GateWorld{}, true)
	wantWorld(t, "nothing, and no law", impl.GateLaw{}, impl.GateWorld{}, true)
	wantWorld(t, "all sorts of doors", l, passWorld(), true)
	for n := range impl.GateMaxDoors + 1 {
		wantWorld(t, "doors: "+count(n), l, impl.GateWorld{Book: passBook(), Doors: manyDoors(n)}, true)
	}
	for _, name := range goodNames() {
		wantWorld(t, "a door "+name, l, impl.GateWorld{Doors: []impl.GateDoor{{Name: name}}}, true)
	}
	row := slipRow("take", "take", "make", "change", "end", "give")
	for n := range impl.GateMaxSlips + 1 {
		w := turned(passWorld(), func(w *impl.GateWorld) { w.Doors[0].Slips = row[:n] })
		wantWorld(t, "slips: "+count(n), l, w, true)
	}
}

// Doors go by Name, byte by byte, and the beginning of a longer Name comes first.
func TestDoorsAscend(t *testing.T) {
	for _, c := range []struct {
		names string
		ok    bool
	}{
		{"ab", true}, {"ba", false}, {"aa", false}, {"abc", true}, {"acb", false}, {"bac", false}, {"cba", false},
		{"-0a", true}, {"0-", false}, {"a0", false}, {"abcd", true}, {"abdc", false}, {"abcc", false},
	} {
		var w impl.GateWorld
		for _, name := range c.names {
			w.Doors = append(w.Doors, impl.GateDoor{Name: string(name), Up: true})
		}
		wantWorld(t, "doors "+c.names, impl.GateLaw{}, w, c.ok)
	}
	wantWorld(t, "a longer one behind", impl.GateLaw{}, impl.GateWorld{Doors: []impl.GateDoor{{Name: "a"}, {Name: "a-"}}}, true)
	wantWorld(t, "a longer one ahead", impl.GateLaw{}, impl.GateWorld{Doors: []impl.GateDoor{{Name: "a-"}, {Name: "a"}}}, false)
}

// A View's Now is at most the Book's, and hangs on nothing else of it: a Tick, grants and ledgers may be any.
func TestViewsOfAWorld(t *testing.T) {
	l := passLaw()
	for _, c := range []struct {
		view, book int
		ok         bool
	}{{0, 0, true}, {0, 1, true}, {1, 1, true}, {1, 0, false}, {7, 8, true}, {8, 8, true}, {9, 8, false}, {impl.GateMaxVersion, impl.GateMaxVersion, true}, {impl.GateMaxVersion, impl.GateMaxVersion - 1, false}} {
		for _, up := range []bool{true, false} {
			w := impl.GateWorld{Book: impl.GateBook{Now: c.book}, Doors: []impl.GateDoor{{Name: "a"}, {Name: "b", Up: up, View: impl.GateBook{Now: c.view}}}}
			wantWorld(t, "a View at "+count(c.view)+" of "+count(c.book), l, w, c.ok)
		}
	}
	other := impl.GateWorld{Book: impl.GateBook{Now: 20}, Doors: []impl.GateDoor{{Name: "a", View: passBook()}}}
	wantWorld(t, "a View that is another book", l, other, true)
	other.Doors[0].View.Tick = impl.GateMaxNumber
	other.Doors[0].View.Purses, other.Doors[0].View.Ledgers = nil, nil
	wantWorld(t, "a View of a later tick", l, other, true)
	other.Doors[0].View.Given = 20
	wantWorld(t, "a View with other grants", l, other, true)
}

func TestWorldsThatAreNotOk(t *testing.T) {
	for what, w := range wrongWorlds() {
		wantWorld(t, what, passLaw(), w, false)
	}
	for what, l := range wrongLaws() {
		wantWorld(t, what, l, impl.GateWorld{}, false)
	}
	for what, b := range wrongBooks() {
		wantWorld(t, what, storeLaw(), impl.GateWorld{Book: b}, false)
		wantWorld(t, what+", as a View", storeLaw(), impl.GateWorld{Book: bareBook(), Doors: []impl.GateDoor{{Name: "d", Up: true, View: b}}}, false)
		wantWorld(t, what+", as a dead door's View", storeLaw(), impl.GateWorld{Book: bareBook(), Doors: []impl.GateDoor{{Name: "d", View: b}}}, false)
	}
	for what, b := range fullBooks(0) {
		wantWorld(t, what, storeLaw(), impl.GateWorld{Book: b, Doors: []impl.GateDoor{{Name: "d", View: b}}}, true)
	}
}

// bookOf has grants of rules.
func bookOf(rules ...impl.GateRule) impl.GateBook {
	b := impl.GateBook{Now: 30, Given: 30}
	for i, r := range rules {
		b.Grants = append(b.Grants, grant(i+1, "ann", "", r))
	}
	return b
}

func wantSafe(t *testing.T, what string, l impl.GateLaw, first impl.GateBook, w impl.GateWorld, want bool) {
	t.Helper()
	if got := impl.GateSafe(l, first, w); got != want {
		t.Errorf("%s: GateSafe of %+v, %+v = %v", what, first, w, got)
	}
}

func TestSafeWorlds(t *testing.T) {
	l := passLaw()
	wide, narrow := rule(verbs(1, 2), "", "yard", ""), rule(verbs(2), "barge", "gang", "b")
	other, ends := rule(verbs(1, 2), "", "mill", ""), rule(verbs(3), "barge", "", "")
	for what, c := range map[string]struct {
		first, now []impl.GateRule
		safe       bool
	}{
		"no grants":                   {nil, nil, true},
		"none any more":               {rules(wide), nil, true},
		"none at first":               {nil, rules(narrow), false},
		"the same":                    {rules(wide), rules(wide), true},
		"the same, twice":             {rules(wide), rules(wide, wide), true},
		"narrower":                    {rules(wide), rules(narrow), true},
		"wider":                       {rules(narrow), rules(wide), false},
		"another team":                {rules(wide), rules(other), false},
		"another verb":                {rules(wide), rules(ends), false},
		"the last is not covered":     {rules(wide), rules(narrow, wide, ends), false},
		"the first is not covered":    {rules(wide), rules(ends, narrow, wide), false},
		"the middle one is not":       {rules(wide), rules(narrow, ends, wide), false},
		"covered by the last":         {rules(ends, other, wide), rules(narrow), true},
		"covered by the first":        {rules(wide, other, ends), rules(narrow), true},
		"verbs covered by several":    {rules(ends, wide), rules(rule(verbs(1, 3), "barge", "dock", "")), true},
		"one verb is covered by none": {rules(ends, wide), rules(rule(verbs(1, 3, 4), "barge", "dock", "")), false},
		"an open one":                 {rules(openRule()), rules(wide, narrow, other, ends, openRule()), true},
		"an open one at last":         {rules(wide, narrow, other, ends), rules(openRule()), false},
		"a team that is none":         {rules(rule(verbs(1), "", "", "b")), rules(rule(verbs(1), "", "none", "bb")), true},
	} {
		w := impl.GateWorld{Book: bookOf(c.now...), Doors: manyDoors(1)}
		wantSafe(t, what, l, bookOf(c.first...), w, c.safe)
	}
}

// Who has a grant, and by whom, is not asked; nor what a View's grants are, nor what slips ask for.
func TestWhatSafetyDoesNotAsk(t *testing.T) {
	l := passLaw()
	narrow := rule(verbs(1, 2, 5), "barge", "dock", "b")
	w := passWorld()
	w.Book.Grants = []impl.GateGrant{grant(3, "zoe", "eve", narrow), grant(8, "ann", "", narrow)}
	wantSafe(t, "others have it", l, bookOf(narrow), w, true)
	wantSafe(t, "a View is open", l, bookOf(), turned(w, func(w *impl.GateWorld) { w.Book.Grants = nil }), true)
	wantSafe(t, "a View has nothing", l, bookOf(), turned(w, func(w *impl.GateWorld) { w.Doors = nil }), false)
	first := passBook()
	first.Grants = []impl.GateGrant{grant(2, "none", "nobody", narrow)}
	wantSafe(t, "a first book with objects", l, first, w, true)
	first.Now = impl.GateMaxVersion
	wantSafe(t, "a first book that is later", l, first, w, true)
}

func TestWhatIsNotOkIsNotSafe(t *testing.T) {
	l, open := passLaw(), bookOf(openRule())
	for what, w := range wrongWorlds() {
		wantSafe(t, what, l, open, w, false)
	}
	wantSafe(t, "ok", l, open, passWorld(), true)
	for what, wrong := range wrongLaws() {
		wantSafe(t, what, wrong, impl.GateBook{}, impl.GateWorld{}, false)
	}
	for what, b := range wrongBooks() {
		wantSafe(t, "first: "+what, storeLaw(), b, impl.GateWorld{}, false)
		wantSafe(t, "now: "+what, storeLaw(), open, impl.GateWorld{Book: b}, false)
	}
	wantSafe(t, "ok", storeLaw(), storeBook(), impl.GateWorld{Book: storeBook()}, true)
	// A rule that is no ok rule covers nothing, though it would: its book is not ok.
	wide := open
	wide.Grants = slices.Clone(open.Grants)
	wide.Grants[0].Rule.Verbs = append(allVerbs(), impl.GateTake)
	wantSafe(t, "a rule that is not ok", l, wide, passWorld(), false)
}
