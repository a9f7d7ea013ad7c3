package tests

import (
	"math"
	"testing"

	"loop.example/wharfhall/impl"
)

func TestLaws(t *testing.T) {
	if !impl.GateLawOk(storeLaw()) || !impl.GateLawOk(impl.GateLaw{}) || !impl.GateLawOk(impl.GateLaw{Teams: chain(impl.GateMaxDeep + 1)}) {
		t.Error("a law that is ok is not")
	}
	for what, l := range wrongLaws() {
		if impl.GateLawOk(l) {
			t.Errorf("%s: the law is ok", what)
		}
	}
}

func wantWeighs(t *testing.T, l impl.GateLaw, o impl.GateObject, resource string, want int) {
	t.Helper()
	if got := impl.GateWeighs(l, o, resource); got != want {
		t.Errorf("GateWeighs of %+v, %q = %d, not %d", o, resource, got, want)
	}
}

func TestWeighsOrdinary(t *testing.T) {
	l := storeLaw()
	o := crate("a", "dock", 1, "10", "2", "9", "big", "p1", "")
	wantWeighs(t, l, o, "crate", 1)
	wantWeighs(t, l, o, "tons", 12)
	wantWeighs(t, l, o, "area", 9)
	for _, none := range []string{"", "pier", "stone", "load", "extra", "mode", "big", "a", "dock", "Crate", "ton", "tons "} {
		wantWeighs(t, l, o, none, 0)
	}
	p := impl.GateObject{Kind: "pier", Values: []string{"10", "4", "7", ""}}
	wantWeighs(t, l, p, "pier", 11)
	wantWeighs(t, l, p, "crate", 4)
	wantWeighs(t, l, p, "note", 0)
	wantWeighs(t, l, p, "", 0)
	wantWeighs(t, l, stone("s", "shed"), "stone", 1)
	wantWeighs(t, l, stone("s", "shed"), "tons", 0)
}

func TestWeighsOfValuesThatAreNoNumbers(t *testing.T) {
	l := storeLaw()
	for _, value := range []string{"", "x", "01", "-1", "+1", "1.0", " 1", "1 ", "00000001", "12345678", "0x1", "１"} {
		wantWeighs(t, l, crate("a", "dock", 1, value, "2", "", "", "", ""), "tons", 2)
		wantWeighs(t, l, crate("a", "dock", 1, "2", value, "", "", "", ""), "tons", 2)
	}
	// A default is what a value may become; it is none yet.
	wantWeighs(t, l, crate("a", "dock", 1, "", "", "", "", "", ""), "tons", 0)
	// A decimal counts though it does not fit.
	wantWeighs(t, l, crate("a", "dock", 1, "9999999", "9999999", "51", "", "", ""), "tons", 19999998)
	wantWeighs(t, l, crate("a", "dock", 1, "0", "0", "51", "", "", ""), "area", 51)
	wantWeighs(t, l, crate("a", "dock", 1, "0", "0", "51", "", "", ""), "tons", 0)
}

func TestWeighsWithoutItsShape(t *testing.T) {
	l := storeLaw()
	for _, values := range [][]string{nil, {"10", "2", "9", "", ""}, {"10", "2", "9", "", "", "", ""}} {
		wantWeighs(t, l, crate("a", "dock", 1, values...), "tons", 0)
		wantWeighs(t, l, crate("a", "dock", 1, values...), "crate", 0)
	}
	few := impl.GateObject{Kind: "stone", Values: []string{""}}
	wantWeighs(t, l, few, "stone", 0)
	plank := impl.GateObject{Kind: "plank"}
	wantWeighs(t, l, plank, "plank", 0)
	wantWeighs(t, impl.GateLaw{}, stone("s", "shed"), "stone", 0)
}

// The first shape of a kind counts, and nothing else of the law is asked for.
func TestWeighsByALawThatIsNotOk(t *testing.T) {
	first := impl.GateShape{Kind: "Box", Fields: []impl.GateField{
		{Kind: impl.GateNumber, Weighs: "No Name"},
		{Kind: impl.GateWord, Weighs: "No Name"},
		{Kind: impl.GateNumber, Weighs: "Box"},
		{Kind: 7, Weighs: "No Name"},
		{Kind: impl.GateNumber},
	}}
	second := impl.GateShape{Kind: "Box", Fields: []impl.GateField{{Kind: impl.GateNumber, Weighs: "tons"}}}
	l := impl.GateLaw{Shapes: []impl.GateShape{{Kind: "z"}, first, second, {Fields: first.Fields}}, Teams: wrongTeams()["a circle of three"]}
	o := impl.GateObject{Kind: "Box", Values: []string{"3", "5", "20", "7", "9"}}
	wantWeighs(t, l, o, "No Name", 3)
	wantWeighs(t, l, o, "Box", 21)
	wantWeighs(t, l, o, "", 0)
	wantWeighs(t, l, impl.GateObject{Kind: "Box", Values: []string{"3"}}, "tons", 0)
	nameless := impl.GateObject{Values: o.Values}
	wantWeighs(t, l, nameless, "", 0)
	wantWeighs(t, l, nameless, "Box", 20)
}

func wantUsed(t *testing.T, l impl.GateLaw, b impl.GateBook, team, resource string, want int) {
	t.Helper()
	if got := impl.GateUsed(l, b, team, resource); got != want {
		t.Errorf("GateUsed of %q, %q = %d, not %d", team, resource, got, want)
	}
}

func TestUsed(t *testing.T) {
	l, b := storeLaw(), storeBook()
	for team, want := range map[string]int{"gang": 12, "dock": 17, "yard": 17, "mill": 8, "shed": 0, "none": 0, "": 0} {
		wantUsed(t, l, b, team, "tons", want)
	}
	for team, want := range map[string]int{"gang": 1, "dock": 2, "yard": 6, "mill": 1, "shed": 0} {
		wantUsed(t, l, b, team, "crate", want)
	}
	wantUsed(t, l, b, "yard", "pier", 11)
	wantUsed(t, l, b, "yard", "area", 9)
	wantUsed(t, l, b, "yard", "stone", 1)
	wantUsed(t, l, b, "yard", "plank", 0)
	wantUsed(t, l, b, "yard", "", 0)
	wantUsed(t, l, impl.GateBook{}, "yard", "tons", 0)
}

// A team of which GateMaxDeep are over it counts for all of them, and not for one further.
func TestUsedOfDeepTeams(t *testing.T) {
	l := storeLaw()
	l.Teams = chain(impl.GateMaxDeep + 2)
	b := impl.GateBook{Objects: []impl.GateObject{stone("s", l.Teams[0].Name)}}
	for i, team := range l.Teams {
		want := 1
		if i > impl.GateMaxDeep {
			want = 0
		}
		wantUsed(t, l, b, team.Name, "stone", want)
	}
}

// Neither the law nor the book has to be ok.
func TestUsedOfAnything(t *testing.T) {
	l := storeLaw()
	l.Teams = []impl.GateTeam{{Name: "a", Over: "b"}, {Name: "b", Over: "a"}, {Name: "a", Over: "c"}}
	twice := stone("s", "a")
	b := impl.GateBook{Now: -1, Objects: []impl.GateObject{twice, twice, stone("!", "No Team"), stone("", "")}}
	wantUsed(t, l, b, "a", "stone", 2)
	wantUsed(t, l, b, "b", "stone", 2)
	wantUsed(t, l, b, "c", "stone", 0)
	wantUsed(t, l, b, "No Team", "stone", 1)
	wantUsed(t, l, b, "", "stone", 1)
	many := impl.GateBook{Objects: manyStones(3 * impl.GateMaxObjects)}
	wantUsed(t, l, many, "dock", "stone", 3*impl.GateMaxObjects)
}

func TestBooksThatAreOk(t *testing.T) {
	l := storeLaw()
	wantBook(t, "the store", l, storeBook(), true)
	wantBook(t, "nothing", l, impl.GateBook{}, true)
	wantBook(t, "nothing by nothing", impl.GateLaw{}, impl.GateBook{}, true)
	wantBook(t, "bare", l, bareBook(), true)
	for what, b := range fullBooks(0) {
		wantBook(t, "as many as may be: "+what, l, b, true)
	}
	for what, turn := range map[string]func(b *impl.GateBook){
		"Now at its end":             func(b *impl.GateBook) { b.Now = impl.GateMaxVersion },
		"Given is Now":               func(b *impl.GateBook) { b.Given = b.Now },
		"Given 0":                    func(b *impl.GateBook) { b.Given, b.Grants = 0, nil },
		"Tick 0":                     func(b *impl.GateBook) { b.Tick, b.Purses[1].Until = 0, 10 },
		"Tick at its end":            func(b *impl.GateBook) { b.Tick, b.Purses, b.Ledgers = impl.GateMaxNumber, nil, nil },
		"grants next to each other":  func(b *impl.GateBook) { b.Grants[1].Number = 2 },
		"the version Now at its end": func(b *impl.GateBook) { b.Now, b.Objects[0].Version = impl.GateMaxVersion, impl.GateMaxVersion },
		"two of one version":         func(b *impl.GateBook) { b.Objects[0].Version, b.Objects[1].Version = 1, 1 },
		"a link to itself":           func(b *impl.GateBook) { b.Objects[3].Values[3] = "p1" },
		"links in a circle":          func(b *impl.GateBook) { b.Objects[0].Values[5] = "b" },
		"an object that is unset": func(b *impl.GateBook) {
			b.Objects[2].Values, b.Ledgers[2].Free = []string{"7", "1", "", "", "", ""}, 100
		},
		"Most 0": func(b *impl.GateBook) { b.Ledgers[2] = ledger("mill", "lead", 0, 0) },
		"Most at its end": func(b *impl.GateBook) {
			b.Ledgers[2] = ledger("mill", "area", impl.GateMaxNumber, impl.GateMaxNumber-3)
		},
		"all is free":        func(b *impl.GateBook) { b.Ledgers[2] = ledger("mill", "lead", 7, 7) },
		"a rule of no team":  func(b *impl.GateBook) { b.Grants[1].Rule.Team = "nowhere" },
		"a rule of no kind":  func(b *impl.GateBook) { b.Grants[1].Rule.Kind = "plank" },
		"a grant to its own": func(b *impl.GateBook) { b.Grants[1].To = "ann" },
		"one door's amounts": func(b *impl.GateBook) { b.Purses[0].Amount, b.Ledgers[0].Free = 13, 0 },
		"a kind as a ledger's": func(b *impl.GateBook) {
			b.Ledgers = append(b.Ledgers, ledger("yard", "stone", 1, 0))
		},
	} {
		wantBook(t, what, l, spoiled(turn), true)
	}
	all := manyPurses(1)
	all.Ledgers[0] = ledger("dock", "tons", impl.GateMaxNumber, 0)
	all.Purses[0].Amount = impl.GateMaxNumber
	wantBook(t, "all in one purse", l, all, true)
	late := manyPurses(1)
	late.Tick, late.Purses[0].Until = impl.GateMaxNumber, impl.GateMaxNumber+impl.GatePurseLife
	wantBook(t, "a purse that lasts beyond all ticks", l, late, true)
}

// A book in which all is used that there may be, by names at their edges.
func TestBooksOfNamesAtTheirEdges(t *testing.T) {
	l := storeLaw()
	for _, name := range goodNames() {
		b := manyPurses(1)
		b.Purses[0].Door = name
		b.Objects = []impl.GateObject{stone(name, "dock")}
		b.Grants = []impl.GateGrant{grant(impl.GateMaxVersion, name, name, openRule())}
		wantBook(t, name, l, b, true)
		b = bareBook()
		b.Ledgers = []impl.GateLedger{ledger("dock", name, 3, 3)}
		wantBook(t, name, l, b, true)
	}
}

func TestBooksThatAreNotOk(t *testing.T) {
	l := storeLaw()
	for what, b := range wrongBooks() {
		wantBook(t, what, l, b, false)
	}
	for what, l := range wrongLaws() {
		wantBook(t, what, l, impl.GateBook{}, false)
	}
}

// Numbers whose sums would wrap round make no book ok.
func TestBooksOfGreatNumbers(t *testing.T) {
	l := storeLaw()
	for _, n := range []int{math.MaxInt, math.MinInt, math.MaxInt - 3, math.MinInt + 3} {
		for what, spoil := range map[string]func(b *impl.GateBook){
			"Now":     func(b *impl.GateBook) { b.Now = n },
			"Tick":    func(b *impl.GateBook) { b.Tick = n },
			"Given":   func(b *impl.GateBook) { b.Given = n },
			"Version": func(b *impl.GateBook) { b.Objects[0].Version = n },
			"Number":  func(b *impl.GateBook) { b.Grants[1].Number = n },
			"Most":    func(b *impl.GateBook) { b.Ledgers[2].Most = n },
			"Free":    func(b *impl.GateBook) { b.Ledgers[2].Free = n },
			"both":    func(b *impl.GateBook) { b.Ledgers[2].Most, b.Ledgers[2].Free = n, n-3 },
			"Amount":  func(b *impl.GateBook) { b.Purses[2].Amount = n },
			"Until":   func(b *impl.GateBook) { b.Purses[2].Until = n },
			"the two that wrap": func(b *impl.GateBook) {
				b.Purses[1].Amount, b.Purses[2].Amount = math.MaxInt, math.MinInt+4
			},
		} {
			wantBook(t, what+" "+count(n), l, spoiled(spoil), false)
		}
	}
}
