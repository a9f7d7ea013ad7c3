package tests

import (
	"maps"
	"slices"
	"testing"

	"loop.example/wharfhall/impl"
)

func TestMark(t *testing.T) {
	b := endBook(ship("a", "part=b"), ending(ship("b")), ship("c", "part=a"), ship("d", "tow=b"), ship("e", "near=b"))
	// What a owns is not marked: a itself is not Ending yet.
	wantEnds(t, "owned by an Ending one", b, "a", "", "a,c")
	wantSweep(t, "owned by an Ending one", b, 10,
		withVersion(ending(ship("a", "part=b")), 10), ending(ship("b")), ship("c", "part=a"), ship("d", "tow=b"), ship("e", "near=b"))
	wantEnds(t, "of another kind", endBook(quay("a", "for=a"), quay("b", "of=a"), ending(ship("a"))), "quay a", "", "a,quay a,quay b")
	wantEnds(t, "by the first and the second link",
		endBook(ending(quay("a")), quay("b", "of=a", "for=s"), quay("c", "of=d", "for=r"), quay("d"), ending(ship("r")), ship("s")),
		"quay b,quay c", "", "quay a,quay b,quay c,r")
	wantEnds(t, "Ending already", endBook(ending(ship("a")), ending(ship("b", "part=a"))), "", "a,b", "a,b")
	wantEnds(t, "an owner with Holds", endBook(held(ending(ship("a")), "h"), ship("b", "part=a")), "b", "", "b")
	wantEnds(t, "itself with Holds", endBook(ending(ship("a")), held(ship("b", "part=a"), "h")), "b", "", "")
	wantEnds(t, "an owner that is not Ending", endBook(ship("a"), ship("b", "part=a")), "", "", "")
	wantEnds(t, "what owns an Ending one", endBook(ship("a"), ending(ship("b", "part=a"))), "", "b", "b")
}

// A name is one of its kind alone.
func TestNamesAreOfTheirKind(t *testing.T) {
	wantEnds(t, "an owner's name", endBook(ending(quay("a")), ship("a"), ship("b", "part=a")), "", "quay a", "quay a")
	wantEnds(t, "a held one's name", endBook(ending(quay("a")), quay("b", "on=a"), ship("a")), "", "quay a", "quay a")
	b := endBook(ending(quay("a")), quay("b", "by=a"), ship("a"), ship("b", "near=a"), ship("c", "at=a"))
	wantSweep(t, "a leaning link's name", b, 11, withVersion(quay("b"), 10), ship("a"), ship("b", "near=a"), withVersion(ship("c"), 11))
}

func TestGoing(t *testing.T) {
	wantEnds(t, "alone", endBook(ending(ship("a"))), "", "a", "a")
	wantEnds(t, "not Ending", endBook(ship("a")), "", "", "")
	wantEnds(t, "Holds", endBook(held(ending(ship("a")), "h"), ending(ship("b"))), "", "b", "b")
	wantEnds(t, "as many Holds as may be", endBook(held(ending(ship("a")), names(impl.GateMaxHolds)...), ending(ship("b"))), "", "b", "b")
	wantEnds(t, "no fields", endBook(ending(impl.GateObject{Kind: "rock", Name: "r", Team: "dock", Version: 1})), "", "rock r", "rock r")
	wantEnds(t, "held by one that stays", endBook(ending(ship("a")), ship("b", "tow=a")), "", "", "")
	wantEnds(t, "held by one that goes", endBook(ending(ship("a")), ending(ship("b", "tow=a"))), "", "a,b", "a,b")
	wantEnds(t, "holds one that stays", endBook(ship("a"), ending(ship("b", "tow=a"))), "", "b", "b")
	wantEnds(t, "held by one with Holds", endBook(ending(ship("a")), held(ending(ship("b", "tow=a")), "h")), "", "", "")
	wantEnds(t, "owns one with Holds", endBook(ending(ship("a")), held(ending(ship("b", "part=a")), "h")), "", "", "")
	wantEnds(t, "owned by one with Holds", endBook(held(ending(ship("a")), "h"), ending(ship("b", "part=a"))), "", "b", "b")
	wantEnds(t, "leaned on by one that stays", endBook(ending(ship("a")), ship("b", "near=a")), "", "a", "a")
	wantEnds(t, "leans on one that stays", endBook(ship("a"), ending(ship("b", "near=a"))), "", "b", "b")
	wantEnds(t, "held by one of two", endBook(ending(ship("a")), ending(ship("b", "tow=a")), ship("c", "tow=a")), "", "b", "b")
	wantEnds(t, "held by the second link", endBook(quay("a", "also=b"), ending(quay("b"))), "", "", "")
	wantEnds(t, "holds two", endBook(quay("a", "also=b", "on=s"), ending(quay("b")), ending(ship("s")), ending(ship("t"))), "", "t", "t")
}

// What stays keeps others through any number of links, whichever way their names are ordered.
func TestGoingThroughChains(t *testing.T) {
	up := endBook(ending(ship("a")), ending(ship("b", "tow=a")), ending(ship("c", "tow=b")), ship("d", "tow=c"))
	wantEnds(t, "the last stays", up, "", "", "")
	up.Objects[3].Ending = true
	wantEnds(t, "the last goes", up, "", "a,b,c,d", "a,b,c,d")
	up.Objects[1].Holds = []string{"h"}
	wantEnds(t, "one in the middle stays", up, "", "c,d", "c,d")
	down := endBook(ship("a", "tow=b"), ending(ship("b", "tow=c")), ending(ship("c", "tow=d")), ending(ship("d")))
	wantEnds(t, "the first stays", down, "", "", "")
	mixed := endBook(ending(quay("a", "of=b")), ending(quay("b", "on=c")), held(ending(quay("d", "for=e")), "h"), ending(ship("c")), ending(ship("e", "tow=c")))
	// d is owned by e, which then stays, and with it c; a and b hold or are owned by what stays, and go.
	wantEnds(t, "held and owned", mixed, "", "quay a,quay b", "quay a,quay b")
}

func TestCircles(t *testing.T) {
	hold := func() impl.GateBook {
		return endBook(ending(ship("a", "tow=b")), ending(ship("b", "tow=c")), ending(ship("c", "tow=a")), ship("d"))
	}
	own := func() impl.GateBook {
		return endBook(ending(ship("a", "part=b")), ending(ship("b", "part=c")), ending(ship("c", "part=a")), ship("d"))
	}
	both := func() impl.GateBook {
		return endBook(ending(ship("a", "tow=b")), ending(ship("b", "part=c")), ending(ship("c", "tow=a")), ship("d"))
	}
	for what, circle := range map[string]func() impl.GateBook{"hold": hold, "own": own, "both": both} {
		wantEnds(t, what, circle(), "", "a,b,c", "a,b,c")
		wantSweep(t, what, circle(), 9, ship("d"))
		for i := range 3 {
			b := circle()
			b.Objects[i].Holds = []string{"h"}
			wantEnds(t, what+", with Holds", b, "", "", "")
			wantNoSweep(t, what+", with Holds", b, 2)
		}
	}
	for i, name := range []string{"a", "b", "c"} {
		b := hold()
		b.Objects[i].Ending = false
		wantEnds(t, "hold, one not Ending", b, "", "", "")
		b = own()
		b.Objects[i].Ending = false
		wantEnds(t, "own, one not Ending", b, name, "", "a,b,c")
		wantSweep(t, "own, one not Ending", b, 10, ship("d"))
	}
	wantEnds(t, "two circles", endBook(ending(ship("a", "tow=b")), ending(ship("b", "tow=a")), ending(ship("c", "part=d")), held(ending(ship("d", "part=c")), "h")), "", "a,b", "a,b")
	wantEnds(t, "a circle that one that stays holds", endBook(ending(ship("a", "tow=b")), ending(ship("b", "tow=a")), ship("c", "tow=a")), "", "", "")
	wantEnds(t, "a circle that holds one that stays", endBook(ending(quay("a", "of=b", "on=s")), ending(quay("b", "of=a")), ship("s")), "", "quay a,quay b", "quay a,quay b")
	wantEnds(t, "a circle that nobody ends", endBook(ship("a", "part=b"), ship("b", "part=a")), "", "", "")
}

func TestObjectsThatNameThemselves(t *testing.T) {
	for _, link := range []string{"tow=a", "part=a", "near=a"} {
		b := endBook(ending(ship("a", link)), ship("b"))
		wantEnds(t, link, b, "", "a", "a")
		wantSweep(t, link, b, 9, ship("b"))
		wantEnds(t, link+", with Holds", endBook(held(ending(ship("a", link)), "h")), "", "", "")
		wantEnds(t, link+", not Ending", endBook(ship("a", link)), "", "", "")
		wantNoSweep(t, link+", not Ending", endBook(ship("a", link)), 2)
	}
	all := endBook(ending(ship("a", "tow=a", "part=a", "near=a", "next=a")))
	wantEnds(t, "by all links", all, "", "a", "a")
	wantSweep(t, "by all links", all, 9)
}

func TestDoomed(t *testing.T) {
	chain := endBook(ending(ship("a")), ship("b", "part=a"), ship("c", "part=b"), ship("d", "part=c"), ship("e"))
	wantEnds(t, "a chain of owners", chain, "b", "", "a,b,c,d")
	chain.Objects[3].Holds = []string{"h"}
	wantEnds(t, "a chain whose last has Holds", chain, "b", "", "")
	chain.Objects[3].Holds, chain.Objects[2].Holds = nil, []string{"h"}
	wantEnds(t, "a chain with Holds in it", chain, "b", "", "d")
	wantEnds(t, "a chain that goes down", endBook(ship("a", "part=b"), ship("b", "part=c"), ending(ship("c"))), "b", "", "a,b,c")
	wantEnds(t, "one that is held by one that stays", endBook(ending(ship("a")), ship("b", "part=a"), ship("c", "tow=b")), "b", "", "")
	wantEnds(t, "one that is held by one that becomes Ending", endBook(ending(ship("a")), ship("b", "part=a"), ship("c", "part=b", "tow=a")), "b", "", "a,b,c")
	wantEnds(t, "owned by two", endBook(quay("a", "of=b", "for=s"), quay("b"), ending(ship("s"))), "quay a", "", "quay a,s")
	wantEnds(t, "a tree", endBook(ending(ship("a")), ship("b", "part=a"), ship("c", "part=a"), ship("d", "part=b"), held(ship("e", "part=c"), "h"), ship("f", "part=c")), "b,c", "", "b,d,f")
	wantEnds(t, "a circle behind an owner", endBook(ending(quay("a")), quay("b", "of=c", "for=s"), quay("c", "of=b"), ship("s")), "", "quay a", "quay a")
	wantEnds(t, "nothing at all", impl.GateBook{}, "", "", "")
}

// What GateMark makes Ending may go in the same sweep, and has its version all the same.
func TestSweepTakesWhatItMarks(t *testing.T) {
	b := endBook(ending(ship("a")), ship("b", "part=a"), ship("c", "near=b"), ship("d"))
	wantSweep(t, "marked and gone", b, 11, withVersion(ship("c"), 11), ship("d"))
	b = endBook(ending(ship("a")), ship("b", "part=a"), ship("c", "part=b"), ship("d", "near=a"))
	b = wantSweep(t, "what b owns is not marked yet", b, 10, ending(ship("a")), withVersion(ending(ship("b", "part=a")), 10), ship("c", "part=b"), ship("d", "near=a"))
	b = wantSweep(t, "all of them go", b, 12, withVersion(ship("d"), 12))
	wantNoSweep(t, "nothing is left to do", b, 2)
}

func TestSweepEmptiesLeaningLinks(t *testing.T) {
	b := endBook(ending(quay("q")), quay("r", "by=q"), ending(ship("a")), ending(ship("b")), ship("c"),
		ship("d", "near=a", "next=b", "at=q", "load=7"), ship("e", "near=c", "next=a", "at=r"), ship("f", "near=c", "next=c", "at=r"),
		ship("g", "near=a", "next=a"))
	wantSweep(t, "several links", b, 13, withVersion(quay("r"), 10), ship("c"), withVersion(ship("d", "load=7"), 11),
		withVersion(ship("e", "near=c", "at=r"), 12), ship("f", "near=c", "next=c", "at=r"), withVersion(ship("g"), 13))
	b = endBook(ending(ship("a")), held(ending(ship("b", "near=a", "next=c")), "h"), ending(ship("c", "near=a")))
	wantSweep(t, "of one that is Ending and stays, not of one that goes", b, 10, withVersion(held(ending(ship("b")), "h"), 10))
	b = endBook(ending(ship("a")), ship("b", "tow=c", "part=c", "near=a", "next=c"), ship("c"))
	wantSweep(t, "other links stay", b, 10, withVersion(ship("b", "tow=c", "part=c", "next=c"), 10), ship("c"))
	b = endBook(held(ending(ship("a")), "h"), ship("b", "near=a"), ending(ship("c")))
	wantSweep(t, "not on what is Ending and stays", b, 9, held(ending(ship("a")), "h"), ship("b", "near=a"))
}

// Those that become Ending come ahead of those whose links are emptied; one that is both has two versions.
func TestSweepVersions(t *testing.T) {
	b := endBook(ending(ship("a")), ship("b", "near=a"), ship("c", "part=z"), held(ship("d", "part=z", "near=a"), "h"),
		ship("e", "next=a"), held(ship("f", "part=z"), "h"), held(ending(ship("z")), "h"))
	for i := range b.Objects {
		b.Objects[i].Version = 9 - i
	}
	wantEnds(t, "marks and links", b, "c,d,f", "a", "a,c")
	// c has 10, d 11 and f 12; then b has 13, d 14 and e 15.
	wantSweep(t, "marks and links", b, 15, withVersion(ship("b"), 13), withVersion(ending(held(ship("d", "part=z"), "h")), 14),
		withVersion(ship("e"), 15), withVersion(ending(held(ship("f", "part=z"), "h")), 12), withVersion(held(ending(ship("z")), "h"), 3))
}

func TestSweepFrees(t *testing.T) {
	l := endLaw()
	b := endBook(ending(inTeam(quay("q", "room=5"), "shed")), inTeam(ship("a", "load=9"), "gang"), ending(inTeam(ship("b", "load=20"), "gang")),
		ending(inTeam(ship("c", "load=3"), "dock")), inTeam(ship("d", "load=4", "near=b"), "yard"), ending(inTeam(ship("e", "load=50"), "mill")))
	b.Ledgers = []impl.GateLedger{
		ledger("dock", "ship", 9, 6), ledger("dock", "tons", 40, 6), ledger("gang", "tons", 30, 1), ledger("mill", "ship", 1, 0), ledger("mill", "tons", 50, 0),
		ledger("shed", "quay", 1, 0), ledger("shed", "tons", 8, 8), ledger("yard", "quay", 4, 3), ledger("yard", "ship", 99, 90), ledger("yard", "tons", 40, 4),
	}
	b.Purses = []impl.GatePurse{purse("d1", "dock", "tons", 2, 3)}
	want := bookCopy(b)
	want.Now = 10
	want.Objects = []impl.GateObject{inTeam(ship("a", "load=9"), "gang"), withVersion(inTeam(ship("d", "load=4"), "yard"), 10)}
	for i, free := range []int{8, 29, 21, 1, 50, 1, 8, 4, 97, 27} {
		want.Ledgers[i].Free = free
	}
	wantBook(t, "ahead of it", l, b, true)
	got, code := impl.GateSweep(l, b)
	wantDone(t, "what went is free", l, got, code, want)
}

func TestSweepNothingToDo(t *testing.T) {
	wantNoSweep(t, "nothing at all", impl.GateBook{}, 2)
	wantNoSweep(t, "none Ending", endBook(ship("a", "part=b"), ship("b")), 2)
	wantNoSweep(t, "Holds", endBook(held(ending(ship("a")), "h"), ending(ship("b", "part=a")), ship("c", "tow=b")), 2)
	last := endBook(held(ending(ship("a")), "h"), ship("b", "near=a"))
	last.Now = impl.GateMaxVersion
	wantNoSweep(t, "nothing to do ahead of no version", last, 2)
}

func TestSweepAtTheLastVersion(t *testing.T) {
	last := func(left int, objects ...impl.GateObject) impl.GateBook {
		b := endBook(objects...)
		b.Now = impl.GateMaxVersion - left
		b.Objects[0].Version = b.Now
		return b
	}
	top := impl.GateMaxVersion
	wantSweep(t, "no version is needed", last(0, ending(ship("a")), ending(ship("b", "near=a")), ship("c")), top, ship("c"))
	wantNoSweep(t, "a mark, none left", last(0, held(ending(ship("a")), "h"), held(ship("b", "part=a"), "h")), 3)
	wantNoSweep(t, "a mark that goes, none left", last(0, ending(ship("a")), ship("b", "part=a")), 3)
	wantNoSweep(t, "a link, none left", last(0, ending(ship("a")), ship("b", "near=a")), 3)
	wantSweep(t, "a mark, one left", last(1, ending(ship("a")), held(ship("b", "part=a"), "h")), top,
		withVersion(ending(ship("a")), top-1), withVersion(ending(held(ship("b", "part=a"), "h")), top))
	wantSweep(t, "a link, one left", last(1, ending(ship("a")), ship("b", "near=a")), top, withVersion(ship("b"), top))
	both := func(left int) impl.GateBook {
		return last(left, ending(ship("a")), ship("b", "part=a"), ship("c", "near=a", "next=b"), ship("d", "near=b"))
	}
	wantSweep(t, "all that it needs", both(3), top, withVersion(ship("c"), top-1), withVersion(ship("d"), top))
	for left := range 3 {
		wantNoSweep(t, "not all fit: "+count(left), both(left), 3)
	}
	// Asking where it would end is not asking for a version.
	wantEnds(t, "the places", both(0), "b", "", "a,b")
}

// A full book, whose objects all go at once, or each in a sweep of its own.
func TestSweepOfAFullBook(t *testing.T) {
	var all, row []impl.GateObject
	list := names(impl.GateMaxObjects)
	for i, name := range list {
		all = append(all, ending(ship(name, "tow="+list[(i+1)%len(list)], "part="+list[(i+7)%len(list)], "near="+list[0])))
		row = append(row, ship(name))
		if i > 0 {
			row[i] = ship(name, "part="+list[i-1])
		}
	}
	wantSweep(t, "at once", endBook(all...), 9)
	row[0].Ending = true
	b := endBook(slices.Clone(row)...)
	if doomed := impl.GateDoomed(endLaw(), b); len(doomed) != impl.GateMaxObjects {
		t.Errorf("GateDoomed: %v", doomed)
	}
	for i := 1; i < len(list); i++ {
		wantPlaces(t, "GateMark", b, impl.GateMark(endLaw(), b), list[i])
		row[i] = withVersion(ending(row[i]), 9+i)
		left := row
		if i == len(list)-1 {
			left = nil
		}
		b = wantSweep(t, "one by one", b, 9+i, slices.Clone(left)...)
	}
	wantNoSweep(t, "none is left", b, 2)
}

// livelyBook is one of which each of the four functions has something to tell.
func livelyBook() impl.GateBook {
	b := endBook(ending(quay("q", "room=2")), ending(ship("a")), held(ship("b", "part=a", "at=q"), "h", "i"), ship("c", "at=q", "near=a"), ending(ship("d")))
	b.Ledgers = []impl.GateLedger{ledger("dock", "ship", 9, 2), ledger("yard", "tons", 6, 2)}
	b.Purses = []impl.GatePurse{purse("d1", "dock", "ship", 1, 3)}
	return b
}

// endSpoilers each turn one thing of the lively book wrong.
func endSpoilers() map[string]func(b *impl.GateBook) {
	return map[string]func(b *impl.GateBook){
		"Now":               func(b *impl.GateBook) { b.Now = impl.GateMaxVersion + 1 },
		"Tick":              func(b *impl.GateBook) { b.Tick = -1 },
		"Given":             func(b *impl.GateBook) { b.Given = b.Now + 1 },
		"a version":         func(b *impl.GateBook) { b.Objects[1].Version = b.Now + 1 },
		"no version":        func(b *impl.GateBook) { b.Objects[4].Version = 0 },
		"a team":            func(b *impl.GateBook) { b.Objects[3].Team = "none" },
		"a kind":            func(b *impl.GateBook) { b.Objects[0].Kind = "pier" },
		"a value":           func(b *impl.GateBook) { b.Objects[4].Values[0] = "" },
		"too few values":    func(b *impl.GateBook) { b.Objects[3].Values = b.Objects[3].Values[:5] },
		"a link":            func(b *impl.GateBook) { b.Objects[3].Values[4] = "q" },
		"an owner":          func(b *impl.GateBook) { b.Objects[2].Values[2] = "x" },
		"holds":             func(b *impl.GateBook) { b.Objects[2].Holds = []string{"i", "h"} },
		"objects' order":    func(b *impl.GateBook) { b.Objects[3], b.Objects[4] = b.Objects[4], b.Objects[3] },
		"an object twice":   func(b *impl.GateBook) { b.Objects[4].Name = "c" },
		"a grant":           func(b *impl.GateBook) { b.Grants[0].Number = 3 },
		"a ledger":          func(b *impl.GateBook) { b.Ledgers[1].Free++ },
		"a purse":           func(b *impl.GateBook) { b.Purses[0].Until = 2 },
		"a purse's ledger":  func(b *impl.GateBook) { b.Ledgers = b.Ledgers[1:] },
		"too many ledgers":  func(b *impl.GateBook) { b.Ledgers, b.Purses = manyLedgers(impl.GateMaxLedgers+1), nil },
		"too many grants":   func(b *impl.GateBook) { b.Now, b.Given, b.Grants = 30, 30, manyGrants(impl.GateMaxGrants+1) },
		"the last, no sums": func(b *impl.GateBook) { b.Now, b.Ledgers[0].Most = impl.GateMaxVersion, 8 },
	}
}

// endPlaces are the answers of the three functions that tell places, by their names.
func endPlaces(l impl.GateLaw, b impl.GateBook) map[string][]int {
	return map[string][]int{"GateMark": impl.GateMark(l, b), "GateGoing": impl.GateGoing(l, b), "GateDoomed": impl.GateDoomed(l, b)}
}

func wantNothingTold(t *testing.T, what string, l impl.GateLaw, b impl.GateBook) {
	t.Helper()
	for name, got := range endPlaces(l, b) {
		if len(got) != 0 {
			t.Errorf("%s, %s: %v", name, what, got)
		}
	}
	if got, code := impl.GateSweep(l, b); code != 1 || !sameBook(got, impl.GateBook{}) {
		t.Errorf("GateSweep, %s: %d, %+v", what, code, got)
	}
}

func TestNothingEndsInWhatIsNotOk(t *testing.T) {
	for name, got := range endPlaces(endLaw(), livelyBook()) {
		if len(got) == 0 {
			t.Errorf("%s: nothing", name)
		}
	}
	if _, code := impl.GateSweep(endLaw(), livelyBook()); code != 0 {
		t.Errorf("GateSweep: %d", code)
	}
	for what, spoil := range endSpoilers() {
		b := livelyBook()
		spoil(&b)
		wantNothingTold(t, what, endLaw(), b)
	}
	for what, b := range wrongBooks() {
		wantNothingTold(t, what, storeLaw(), b)
	}
	laws := wrongLaws()
	maps.Copy(laws, wrongEndLaws())
	for what, l := range laws {
		wantNothingTold(t, what, l, livelyBook())
		wantNothingTold(t, what, l, impl.GateBook{})
	}
}

// wrongEndLaws are laws that are not ok, by which the lively book could yet be read.
func wrongEndLaws() map[string]impl.GateLaw {
	role, fallback, team, mend, order := endLaw(), endLaw(), endLaw(), endLaw(), endLaw()
	role.Shapes[0].Fields[4].Role = 4
	fallback.Shapes[2].Fields[4].Default = "a"
	team.Teams[4].Over = "yard"
	mend.Mends = []impl.GateMend{{Kind: "ship", Field: "near", Put: "a"}}
	slices.Reverse(order.Shapes)
	must := endLaw()
	must.Shapes[2].Fields[5].Must = true
	return map[string]impl.GateLaw{"a role": role, "a link's default": fallback, "a team over itself": team, "a mend of a link": mend, "shapes' order": order, "a leaning link that must be": must}
}
