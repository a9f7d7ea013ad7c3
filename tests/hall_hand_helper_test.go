package tests

import (
	"slices"
	"testing"

	"loop.example/wharfhall/impl"
)

// slipOfByHand is what chapter 33 says of HallSlipOf.
func slipOfByHand(h impl.HallHouse, b impl.HallBook, number int, door string, a impl.GateAsk) (impl.HallEntry, impl.GateSaid) {
	if !hallOkByHand(h, b) || !handName.MatchString(door) {
		return impl.HallEntry{}, codeAlone(1)
	}
	if a.Verb == 1 && !slices.Contains(a.Holds, "fleet") || a.Verb == 4 && a.Hold == "fleet" {
		return impl.HallEntry{}, codeAlone(15)
	}
	slip, said := slipByHand(impl.HallLaw(h), b.Gate, door, a)
	if said.Code != 0 {
		return impl.HallEntry{}, said
	}
	e := impl.HallEntry{Kind: 1, Number: number, Slip: slip}
	if formByHand(e) == "" {
		return impl.HallEntry{}, codeAlone(16)
	}
	return e, impl.GateSaid{}
}

// actsByHand is what chapter 33 says of HallActs.
func actsByHand(h impl.HallHouse, b impl.HallBook, steward int) []impl.HallEntry {
	if !hallOkByHand(h, b) {
		return nil
	}
	var out []impl.HallEntry
	for _, act := range stewardByHand(steward, b.Stew) {
		whole, most := act.Ends, 0
		for n := range len(whole) + 1 {
			act.Ends = whole[:n]
			if formByHand(impl.HallEntry{Kind: 7, Number: b.Stew.Now, Act: act}) != "" {
				most = n
			}
		}
		act.Ends = whole[:most]
		out = append(out, impl.HallEntry{Kind: 7, Number: b.Stew.Now, Act: act})
	}
	return out
}

// nextByHand is what chapter 33 says of HallNext.
func nextByHand(h impl.HallHouse, b impl.HallBook, number int) (impl.HallEntry, bool) {
	if !hallOkByHand(h, b) {
		return impl.HallEntry{}, false
	}
	for steward := 1; steward <= 6; steward++ {
		if acts := actsByHand(h, b, steward); len(acts) > 0 {
			return acts[0], true
		}
	}
	l := impl.HallLaw(h)
	e := impl.HallEntry{Kind: 8, Number: number, Sea: impl.StewEvent{Kind: 1}}
	if markByHand(l, b.Gate) != 0 || greatestByHand(l, b.Gate, endingByHand(b.Gate)) != 0 {
		e = impl.HallEntry{Kind: 6, Number: number}
	} else if doneByHand(b.Stew) {
		return impl.HallEntry{}, false
	}
	if formByHand(e) == "" {
		return impl.HallEntry{}, false
	}
	return e, true
}

// wantSlipEntry asks HallSlipOf for what the document's words give: what is said, and an entry only where that is nothing.
func wantSlipEntry(t *testing.T, what string, h impl.HallHouse, b impl.HallBook, number int, door string, a impl.GateAsk, said impl.GateSaid) impl.HallEntry {
	t.Helper()
	want, worded := slipOfByHand(h, b, number, door, a)
	if worded != said {
		t.Errorf("%s: by the document's words %+v is said to %+v of %q in %s, not %+v", what, worded, a, door, hallTold(b), said)
	}
	got, told := impl.HallSlipOf(h, b, number, door, a)
	if told != said || !sameWhole(got, want) {
		t.Errorf("%s: HallSlipOf of %+v, %q, %d in %s is %s, %+v,\nnot %s, %+v", what, a, door, number, hallTold(b), entryTold(got), told, entryTold(want), said)
	}
	if has := impl.HallForm(got) != ""; has != (told == impl.GateSaid{}) {
		t.Errorf("%s: %+v, and the form of %s is %q", what, told, entryTold(got), impl.HallForm(got))
	}
	return got
}

// wantActs asks HallActs for what the document's words give, each with a form.
func wantActs(t *testing.T, what string, h impl.HallHouse, b impl.HallBook, steward int) []impl.HallEntry {
	t.Helper()
	got, want := impl.HallActs(h, b, steward), actsByHand(h, b, steward)
	if !sameWhole(got, want) {
		t.Errorf("%s: HallActs of %d in %s is %q, not %q", what, steward, hallTold(b), formsOf(got), formsOf(want))
	}
	for _, e := range got {
		wantForm(t, what, e, formByHand(e))
	}
	return got
}

func formsOf(entries []impl.HallEntry) []string {
	forms := []string{}
	for _, e := range entries {
		forms = append(forms, impl.HallForm(e))
	}
	return forms
}

// wantNext asks HallNext for what the document's words give, and for promise 43.
func wantNext(t *testing.T, what string, h impl.HallHouse, b impl.HallBook, number int) (impl.HallEntry, bool) {
	t.Helper()
	got, ok := impl.HallNext(h, b, number)
	if want, there := nextByHand(h, b, number); ok != there || !sameWhole(got, want) {
		t.Errorf("%s: HallNext of %s with %d is %s, %v, not %s, %v", what, hallTold(b), number, entryTold(got), ok, entryTold(want), there)
	}
	if ok {
		wantNextDone(t, what, h, b, got)
	}
	return got, ok
}

// wantNextForm asks for the form of what is next in books of yardHouse; the empty text where there is nothing.
func wantNextForm(t *testing.T, what string, b impl.HallBook, number int, form string) {
	t.Helper()
	wantHallOk(t, what, yardHouse(), b, true)
	e, ok := wantNext(t, what, yardHouse(), b, number)
	if got := impl.HallForm(e); got != form || ok != (form != "") {
		t.Errorf("%s: next in %s is %q, %v, not %q", what, hallTold(b), got, ok, form)
	}
}

// wantNextDone is what promise 43 says: what is next is done, and changes something, unless something is at its end.
func wantNextDone(t *testing.T, what string, h impl.HallHouse, b impl.HallBook, e impl.HallEntry) impl.GateSaid {
	t.Helper()
	got, said := impl.HallDo(h, b, e)
	switch {
	case said.Code == 0:
		if sameHall(got, b) {
			t.Errorf("%s: %s changes nothing in %s", what, entryTold(e), hallTold(b))
		}
	case said == codeAlone(11):
		wantEnd(t, what, b, b.Gate.Now == impl.GateMaxVersion)
	case said == codeAlone(3) && e.Kind == impl.HallSweep:
		wantEnd(t, what, b, b.Gate.Now > impl.GateMaxVersion-len(b.Gate.Objects))
	case said == undone(7):
		next := servedIn(b, e.Act.Service).Next + e.Act.Create
		wantEnd(t, what, b, b.Stew.Now > impl.StewMaxNumber-impl.StewMaxServices || next > impl.StewMaxNumber || len(b.Stew.Copies)+e.Act.Create > impl.StewMaxCopies)
	default:
		t.Errorf("%s: %s is next in %s, and is told %+v", what, entryTold(e), hallTold(b), said)
	}
	return said
}

func wantEnd(t *testing.T, what string, b impl.HallBook, atEnd bool) {
	t.Helper()
	if !atEnd {
		t.Errorf("%s: nothing is at its end in %s", what, hallTold(b))
	}
}

// hallOf are books of yardHouse in which the stewards' book is one whose services all have a Least of 0 and an Over above
// 0: each has an object that asks for just it, and the hold of the hall. Others are objects beside them.
func hallOf(stew impl.StewBook, others ...impl.GateObject) impl.HallBook {
	gate := impl.GateBook{Now: 90, Given: 3, Grants: yardHouse().Grants, Objects: others}
	for _, s := range stew.Services {
		most, per := s.Want, ""
		if s.Per > 0 {
			most, per = s.Most, count(s.Per)
		}
		o := madeService(s.Name, "dock", count(s.Image)+","+count(most)+","+count(s.Down)+","+count(s.Over)+","+per+",", 8, "fleet")
		o.Ending = s.Gone
		gate.Objects = append(gate.Objects, o)
	}
	slices.SortFunc(gate.Objects, func(x, y impl.GateObject) int { return map[bool]int{true: -1, false: 1}[x.Name < y.Name] })
	return impl.HallBook{Gate: gate, Stew: stew}
}
