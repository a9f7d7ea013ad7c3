package tests

import (
	"strings"
	"testing"

	"loop.example/wharfhall/impl"
)

func memoryHouses() map[string]impl.HallHouse {
	out := okHouses()
	for what, h := range wrongHouses() {
		out["wrong: "+what] = h
	}
	return out
}

func TestHousesShareNoMemory(t *testing.T) {
	for what, plain := range memoryHouses() {
		h := withRoom(plain)
		before := opened(h)
		law, first := impl.HallLaw(h), impl.HallFirst(h)
		impl.HallHouseOk(h)
		wantApart(t, what+": the law", law, h)
		wantApart(t, what+": the books", first, h)
		wantApart(t, what+": both, and both again", struct {
			Law, LawAgain     impl.GateLaw
			First, FirstAgain impl.HallBook
		}{law, impl.HallLaw(h), first, impl.HallFirst(h)}, h)
		wantUntouched(t, what, h, before)
	}
}

// One list may be there twice in a house; the books have two.
func TestHousesOfWhatIsSharedAlready(t *testing.T) {
	h := impl.HallHouse{Grants: manyGrants(3)}
	h.Grants[1].Rule.Verbs = h.Grants[0].Rule.Verbs
	h.Grants[2].Rule.Verbs = h.Grants[0].Rule.Verbs[:2]
	first := impl.HallFirst(h)
	wantApart(t, "one list of verbs", first, h)
	h.Grants[0].Rule.Verbs[0] = 3
	h.Grants[2].To = "bob"
	if g := first.Gate.Grants; g[0].Rule.Verbs[0] != 1 || g[1].Rule.Verbs[0] != 1 || g[2].To != "ann" {
		t.Errorf("the books have changed with the house: %+v", g)
	}
}

// Two laws of one house can be spoiled one without the other.
func TestALawMayBeSpoiled(t *testing.T) {
	h := yardHouse()
	law := impl.HallLaw(h)
	law.Shapes[0].Fields[0].Name, law.Mends[0].Put, law.Teams[0].Name = "spoiled", "9", "spoiled"
	law.Shapes[0].Fields = append(law.Shapes[0].Fields[:2], law.Shapes[0].Fields[3:]...)
	wantHallLaw(t, "behind one that was spoiled", h)
	if h.Teams[0].Name != "dock" {
		t.Errorf("the house was spoiled: %+v", h)
	}
}

func memoryEntries() []impl.HallEntry {
	var out []impl.HallEntry
	for _, f := range entryForms() {
		out = append(out, f.entry, withNumber(f.entry, "Number", 0), withNumber(f.entry, "Kind", 9))
	}
	d := &dice{state: 3007}
	for range 500 {
		e := copyEntry(diceEntry(d))
		out = append(out, e)
		turned := copyEntry(e)
		turnEntry(d, &turned)
		out = append(out, turned)
	}
	return out
}

func TestNoEntryIsWrittenInto(t *testing.T) {
	for _, plain := range memoryEntries() {
		e := withRoom(plain)
		before := opened(e)
		form := impl.HallForm(e)
		wantUntouched(t, form, e, before)
		if form != impl.HallForm(plain) {
			t.Errorf("with room behind the form of %s is %q, not %q", entryTold(plain), form, impl.HallForm(plain))
		}
	}
}

func TestEntriesShareNoMemory(t *testing.T) {
	for _, plain := range memoryEntries() {
		e := withRoom(plain)
		form := impl.HallForm(e)
		first, ok := impl.HallRead(form)
		again, _ := impl.HallRead(form)
		wantApart(t, form, []impl.HallEntry{first, again}, e)
		if !ok {
			continue
		}
		// What is done to the one that was read is not done to the one that was given, nor to the next.
		spoilEntry(&first)
		if !sameWhole(again, plain) || !sameWhole(e, plain) || impl.HallForm(e) != form {
			t.Errorf("%q is %s by now, and was %s", form, entryTold(again), entryTold(plain))
		}
	}
}

func spoilEntry(e *impl.HallEntry) {
	for i := range e.Slip.Wants {
		e.Slip.Wants[i].Name = "spoiled"
	}
	for i := range e.Slip.Ask.Values {
		e.Slip.Ask.Values[i] = "spoiled"
	}
	for i := range e.Slip.Ask.Holds {
		e.Slip.Ask.Holds[i] = "spoiled"
	}
	for i := range e.Slip.Ask.Rule.Verbs {
		e.Slip.Ask.Rule.Verbs[i] = 77
	}
	for i := range e.Act.Ends {
		e.Act.Ends[i].Number = 77
	}
}

// The same call gives the same answer again, whatever was asked between.
func TestEntriesKeepNothing(t *testing.T) {
	entries := memoryEntries()
	forms := make([]string, len(entries))
	for i, e := range entries {
		forms[i] = impl.HallForm(e)
	}
	for i := len(entries) - 1; i >= 0; i-- {
		if again := impl.HallForm(entries[i]); again != forms[i] {
			t.Errorf("%q, and then %q", forms[i], again)
		}
		if e, ok := impl.HallRead(forms[i]); ok != (forms[i] != "") || ok && !sameWhole(e, entries[i]) {
			t.Errorf("%q is read as %s, %v", forms[i], entryTold(e), ok)
		}
		impl.HallRead(strings.ToUpper(forms[i]))
	}
}
