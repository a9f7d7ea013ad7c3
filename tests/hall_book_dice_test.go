package tests

import (
	"slices"
	"testing"

	"loop.example/wharfhall/impl"
)

// What the dice name services by: more than the stewards' book has room for.
var diceHallNames = []string{"a", "api", "db", "log", "n1", "n2", "old", "web", "web-2", "zip", "zoo"}

func diceHallRule(d *dice, teams []impl.GateTeam) impl.GateRule {
	r := diceRule(d)
	r.Kind, r.Prefix = oneOf(d, "", "", "service", "crane"), oneOf(d, "", "", "", "web", "n")
	r.Team = oneOf(d, "", "", oneOf(d, teams...).Name)
	return r
}

// diceHouse is a house that is ok, in which somebody may do all as a rule.
func diceHouse(d *dice) impl.HallHouse {
	h := impl.HallHouse{Teams: someTeams(d)}
	for n := range oneOf(d, 1, 2, 3, 5, 20+d.below(5)) {
		g := grant(n+1, oneOf(d, "ann", "bob", "cyd"), "", diceHallRule(d, h.Teams))
		if n == 0 && d.below(8) > 0 {
			g.To, g.Rule = "ann", openRule()
		}
		h.Grants = append(h.Grants, g)
	}
	return h
}

// hallRow is a row of books, each of which an entry has led to from the one ahead, and the texts of all entries. Where
// it is quiet, rights are not turned, and doors do not tell what they saw, so that a text may be done at any place.
type hallRow struct {
	h     impl.HallHouse
	books []impl.HallBook
	texts []string
	quiet bool
}

// newHallRow begins with the first books of a house, to which some bounds are added.
func newHallRow(t *testing.T, d *dice, quiet bool) *hallRow {
	t.Helper()
	h := diceHouse(d)
	r := &hallRow{h: h, books: []impl.HallBook{impl.HallFirst(h)}, quiet: quiet}
	for range d.below(3) {
		r.step(t, impl.HallEntry{Kind: impl.HallBound, Number: 1, Team: oneOf(d, h.Teams...).Name, Resource: oneOf(d, "copies", "copies", "service"), Amount: 5 + d.below(40)})
	}
	return r
}

func (r *hallRow) now() impl.HallBook {
	return r.books[len(r.books)-1]
}

// older is what somebody sees: often the last books, or ones of a short while ago.
func (r *hallRow) older(d *dice) impl.HallBook {
	back := oneOf(d, 1, 1, 2, 3, 8)
	return r.books[len(r.books)-1-d.below(min(back, len(r.books)))]
}

// some is one of a list, or else what is told.
func some[T any](d *dice, list []T, otherwise T) T {
	if len(list) == 0 || d.below(8) == 0 {
		return otherwise
	}
	return oneOf(d, list...)
}

func diceHallValues(d *dice, view impl.HallBook) []string {
	of := some(d, view.Gate.Objects, impl.GateObject{Name: oneOf(d, diceHallNames...)}).Name
	return []string{
		count(1 + d.below(3)),
		oneOf(d, "0", "1", "2", "3", count(d.below(5)), oneOf(d, "4", "10", "11", "")),
		oneOf(d, "", "0", "1", "2"),
		oneOf(d, "", "", "1", "2", oneOf(d, "3", "10", "0")),
		oneOf(d, "", "", "", "10", "10", "1"),
		oneOf(d, "", "", of),
	}
}

// freeName is the name of no object, as a rule.
func freeName(d *dice, view impl.HallBook) string {
	free := slices.DeleteFunc(slices.Clone(diceHallNames), func(name string) bool { return objectIn(view, name).Name != "" })
	return some(d, free, oneOf(d, diceHallNames...))
}

// diceHallAsk is mostly of what a view has, and near to what is done.
func (r *hallRow) diceHallAsk(d *dice, view impl.HallBook) impl.GateAsk {
	a := impl.GateAsk{Who: oneOf(d, "ann", "ann", "ann", "ann", "ann", "ann", "bob", "cyd"), Verb: oneOf(d, 1, 1, 1, 1, 1, 1, 1, 1, 2, 2, 3, 3, 4, 4, oneOf(d, 5, 5, 6))}
	if r.quiet {
		a.Verb = oneOf(d, 1, 1, 1, 1, 1, 2, 2, 3, 4)
	}
	if len(view.Gate.Objects) < 2 {
		a.Verb = oneOf(d, 1, 1, 1, 1, a.Verb)
	}
	o := some(d, view.Gate.Objects, impl.GateObject{Name: oneOf(d, diceHallNames...), Version: 1})
	if a.Verb <= impl.GateLetGo {
		a.Kind, a.Name = "service", o.Name
	}
	switch a.Verb {
	case impl.GateMake:
		a.Name, a.Team, a.Values = freeName(d, view), oneOf(d, r.h.Teams...).Name, diceHallValues(d, view)
		a.Holds = oneOf(d, []string{"fleet"}, []string{"fleet"}, []string{"audit", "fleet"}, []string{"fleet", "tax"}, oneOf(d, nil, []string{"audit"}, []string{"fleet", "audit"}))
	case impl.GateChange:
		a.Seen, a.Values = oneOf(d, 0, o.Version), diceHallValues(d, view)
	case impl.GateEnd:
		a.Seen = oneOf(d, 0, o.Version, o.Version, 1)
	case impl.GateLetGo:
		others := slices.DeleteFunc(slices.Clone(o.Holds), func(hold string) bool { return hold == "fleet" })
		a.Hold = some(d, others, oneOf(d, "audit", "tax", "fleet"))
	case impl.GateGive:
		a.To, a.Rule = oneOf(d, "ann", "bob", "cyd"), diceHallRule(d, r.h.Teams)
	case impl.GateTake:
		a.Number = some(d, view.Gate.Grants, impl.GateGrant{Number: 1 + d.below(20)}).Number
		// Who took the first grant back would leave little to ask for.
		if a.Number == 1 && d.below(6) > 0 {
			a.Number = 2
		}
	}
	return a
}

// diceHallSlip is what a door makes of an ask, or, where it makes nothing, what one might that sees nothing.
func (r *hallRow) diceHallSlip(d *dice, view impl.HallBook) impl.GateSlip {
	a, door := r.diceHallAsk(d, view), oneOf(d, diceDoors[:3]...)
	if r.quiet {
		a.Seen = 0
	}
	s, said := impl.GateSlipOf(impl.HallLaw(r.h), view.Gate, door, a)
	if said.Code != 0 || r.quiet || d.below(8) == 0 {
		s = impl.GateSlip{Door: door, Ask: a, Given: view.Gate.Given}
	}
	return s
}

func diceHallAct(d *dice, now, view impl.HallBook) impl.StewAct {
	for range 4 {
		if acts := impl.StewAsk(1+d.below(6), view.Stew); len(acts) > 0 {
			return oneOf(d, acts...)
		}
	}
	return diceAct(d, now.Stew)
}

func diceHallSea(d *dice, now impl.HallBook) impl.StewEvent {
	c := some(d, now.Stew.Copies, impl.StewCopy{Service: "web", Number: 1})
	s := some(d, now.Stew.Services, impl.StewService{Name: "none"})
	switch d.below(9) {
	case 0:
		return failOf(c.Service, c.Number)
	case 1:
		return sinkOf(oneOf(d, diceBerths...))
	case 2, 3:
		return raiseOf(oneOf(d, append(diceBerths, "east")...), d.below(4) == 0)
	case 4, 5:
		return loadOf(s.Name, oneOf(d, d.below(60), d.below(60), 1000000, 1000001))
	}
	return tickOf()
}

// diceHallEntry is mostly one that is done, or was worth trying.
func (r *hallRow) diceHallEntry(d *dice) impl.HallEntry {
	now, view := r.now(), r.older(d)
	team := oneOf(d, r.h.Teams...).Name
	g := some(d, now.Gate.Ledgers, ledger(team, oneOf(d, "copies", "service", "tons"), 0, 0))
	e := impl.HallEntry{Kind: oneOf(d, 1, 1, 1, 1, 1, 1, 1, 2, 2, 2, oneOf(d, 3, 4, 5), 6, 7, 7, 7, 7, 7, 8, 8, 8), Number: 1 + d.below(900)}
	if d.below(4) == 0 && len(impl.GateMark(impl.HallLaw(r.h), now.Gate)) > 0 {
		e.Kind = impl.HallSweep
	}
	switch e.Kind {
	case impl.HallSlip:
		e.Slip = r.diceHallSlip(d, view)
	case impl.HallDraw:
		e.Door, e.Team, e.Resource, e.Amount = oneOf(d, diceDoors...), g.Team, g.Resource, oneOf(d, 1+d.below(6), 1+d.below(20), max(1, g.Free/2), g.Free, g.Free+1, max(g.Free-1, 0))
	case impl.HallBack:
		p := some(d, now.Gate.Purses, purse("d1", team, "copies", 0, 0))
		e.Door, e.Team, e.Resource = p.Door, p.Team, p.Resource
	case impl.HallBound:
		e.Team, e.Resource, e.Amount = oneOf(d, g.Team, team), oneOf(d, g.Resource, "copies"), oneOf(d, d.below(40), d.below(40), max(0, g.Most-g.Free), max(0, g.Most-g.Free-1), 1000001)
	case impl.HallAct:
		e.Act = diceHallAct(d, now, view)
	case impl.HallSea:
		e.Sea = diceHallSea(d, now)
	}
	if d.below(20) == 0 {
		turnEntry(d, &e)
	}
	return e
}

// step brings an entry into the last books, and asks for all that the document's words and the promises say.
func (r *hallRow) step(t *testing.T, e impl.HallEntry) impl.GateSaid {
	t.Helper()
	b := r.now()
	_, said := hallDoByHand(r.h, b, e)
	got := wantHallDo(t, "drawn", r.h, b, e, said)
	if said.Code == 0 {
		wantHallPromises(t, r.h, b, got, e)
		r.books = append(r.books, got)
	}
	if form := impl.HallForm(e); form != "" {
		r.texts = append(r.texts, form)
	}
	return said
}

// wantHallPromises is what the promises 37 to 40 say of an entry that was done.
func wantHallPromises(t *testing.T, h impl.HallHouse, b, got impl.HallBook, e impl.HallEntry) {
	t.Helper()
	var first []impl.GateRule
	for _, g := range h.Grants {
		first = append(first, g.Rule)
	}
	wantCoveredGrants(t, impl.HallLaw(h), first, got.Gate)
	wantCopiesBounded(t, h, got)
	wantHeld(t, h, b, got)
	if e.Kind == impl.HallAct {
		wantNoHarm(t, b.Stew, got.Stew, e.Act)
	}
}

// wantCopiesBounded is what promise 38 says of books.
func wantCopiesBounded(t *testing.T, h impl.HallHouse, b impl.HallBook) {
	t.Helper()
	for _, g := range b.Gate.Ledgers {
		sum := 0
		for _, s := range b.Stew.Services {
			if g.Resource == "copies" && underByHand(impl.HallLaw(h), objectIn(b, s.Name).Team, g.Team) {
				sum += mostCopies(s)
			}
		}
		if sum > g.Most {
			t.Errorf("there may be %d copies under %+v: %s", sum, g, hallTold(b))
		}
	}
}

// mostCopies is how many copies a service may ever have.
func mostCopies(s impl.StewService) int {
	if s.Per > 0 {
		return s.Most + s.Over
	}
	return s.Want + s.Over
}

// wantHeld is what promise 39 says of two books, of which an entry has led from the one to the other.
func wantHeld(t *testing.T, h impl.HallHouse, b, got impl.HallBook) {
	t.Helper()
	for _, o := range b.Gate.Objects {
		left := slices.ContainsFunc(b.Stew.Copies, func(c impl.StewCopy) bool { return c.Service == o.Name })
		behind := objectIn(got, o.Name)
		if behind.Name == "" && (left || servedIn(b, o.Name).Name != "") {
			t.Errorf("%+v is gone, though it was served: %s", o, hallTold(b))
		}
		if behind.Name != "" && o.Ending && weighsByHand(impl.HallLaw(h), behind, "copies") != weighsByHand(impl.HallLaw(h), o, "copies") {
			t.Errorf("%+v weighs what it did not: %+v", behind, o)
		}
	}
}

// hallForm tells of an entry what counts.
func hallForm(e impl.HallEntry, said impl.GateSaid) string {
	what := map[int]string{1: "slip", 2: "draw", 3: "back", 4: "bound", 5: "time", 6: "sweep", 7: "act", 8: "sea"}[e.Kind]
	if e.Kind == impl.HallSlip && said.Code == 0 {
		what += " " + map[int]string{1: "make", 2: "change", 3: "end", 4: "letgo", 5: "give", 6: "take"}[e.Slip.Ask.Verb]
	}
	if e.Kind == impl.HallAct && e.Act.Drop {
		what += " drop"
	}
	what += " " + count(said.Code)
	if said.Code == 14 {
		what += " at " + count(said.Place)
	}
	return what
}

// P35, P37, P38, P39 and P40, over many drawn houses and rows of entries, from the first books on.
func TestDrawnRowsOfEntries(t *testing.T) {
	t.Parallel()
	d := &dice{state: 3101}
	seen := map[string]int{}
	for range 120 {
		r := newHallRow(t, d, false)
		for range 150 {
			e := r.diceHallEntry(d)
			seen[hallForm(e, r.step(t, e))]++
		}
		if t.Failed() {
			return
		}
	}
	wantSeen(t, seen, 20, "slip make 0", "slip change 0", "slip end 0", "slip letgo 0", "slip give 0", "slip take 0", "slip 2", "slip 3", "slip 4", "slip 6",
		"slip 7", "slip 9", "slip 10", "slip 12", "slip 14 at 2", "slip 15", "draw 0", "draw 2", "draw 3", "back 0", "back 2", "bound 0", "bound 2", "bound 3",
		"time 0", "sweep 0", "sweep 2", "act 0", "act drop 0", "act 14 at 3", "act 14 at 4", "act 14 at 6", "sea 0", "sea 14 at 3", "sea 14 at 2", "sea 2")
}

// nearEnds are books with Nows that are at their ends, or near.
func nearEnds(d *dice, b impl.HallBook) impl.HallBook {
	b = hallCopy(b)
	if d.below(3) > 0 {
		b.Gate.Now = impl.GateMaxVersion - d.below(3)
	}
	if d.below(3) > 0 {
		b.Stew.Now = impl.StewMaxNumber - d.below(3)
	}
	return b
}

// The same, where the Nows come to their ends.
func TestDrawnEntriesAtTheEnds(t *testing.T) {
	t.Parallel()
	d := &dice{state: 3102}
	seen := map[string]int{}
	for range 40 {
		r := newHallRow(t, d, d.below(2) == 0)
		for range 100 {
			r.step(t, r.diceHallEntry(d))
			late := &hallRow{h: r.h, books: []impl.HallBook{nearEnds(d, r.now())}}
			for range 5 {
				e := late.diceHallEntry(d)
				seen[hallForm(e, late.step(t, e))]++
			}
		}
		if t.Failed() {
			return
		}
	}
	wantSeen(t, seen, 10, "slip 11", "slip 14 at 7", "sweep 3", "sweep 14 at 7", "act 14 at 7", "act drop 11", "act drop 14 at 7", "sea 14 at 7", "slip make 0", "sweep 0", "act drop 0")
}

// The same, of the texts of a row that come in any order, some of them more than once: by which books somebody asked for
// something counts for nothing.
func TestTextsInAnyOrder(t *testing.T) {
	t.Parallel()
	d := &dice{state: 3103}
	seen := map[string]int{}
	for range 25 {
		r := newHallRow(t, d, d.below(3) > 0)
		for range 250 {
			r.step(t, r.diceHallEntry(d))
		}
		texts := r.texts
		r.books = r.books[:1]
		for range 500 {
			e := readEntry(t, oneOf(d, texts...))
			seen[hallForm(e, r.step(t, e))]++
		}
		if t.Failed() {
			return
		}
	}
	wantSeen(t, seen, 20, "slip make 0", "draw 0", "bound 0", "act 14 at 3", "act 14 at 4", "sea 0", "slip 12", "slip 15")
}

// turnHall turns one thing of books, so that they are ok as often as not.
func turnHall(d *dice, b *impl.HallBook) {
	if len(b.Gate.Objects) == 0 || d.below(6) == 0 {
		turnOneNumber(d, &b.Gate)
		return
	}
	o := &b.Gate.Objects[d.below(len(b.Gate.Objects))]
	switch d.below(7) {
	case 0:
		o.Ending = !o.Ending
	case 1:
		o.Holds = oneOf(d, nil, []string{"fleet"}, []string{"audit"}, []string{"audit", "fleet"}, append(slices.Clone(o.Holds), "zoo"))
	case 2:
		o.Values[d.below(6)] = oneOf(d, "", "0", "1", "2", "3", "10", "web", o.Values[1], o.Values[3])
	case 3:
		o.Name = oneOf(d, diceHallNames...)
	case 4:
		o.Version = 1 + d.below(b.Gate.Now)
	default:
		turnStewBook(d, &b.Stew)
	}
}

// HallOk, of books that were turned, is what the document's words say.
func TestDrawnHallBooksTurned(t *testing.T) {
	t.Parallel()
	d := &dice{state: 3104}
	seen := map[bool]int{}
	for range 40 {
		r := newHallRow(t, d, true)
		h := r.h
		for range 60 {
			r.step(t, r.diceHallEntry(d))
			for range 5 {
				b := hallCopy(r.now())
				turnHall(d, &b)
				ok := hallOkByHand(h, b)
				seen[ok]++
				wantHallOk(t, "turned", h, b, ok)
				if !ok {
					wantHallDo(t, "turned", h, b, r.diceHallEntry(d), codeAlone(1))
				}
			}
		}
	}
	if seen[true] < 1000 || seen[false] < 1000 {
		t.Errorf("the dice showed too little: %v", seen)
	}
}
