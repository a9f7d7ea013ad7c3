package tests

import (
	"fmt"
	"regexp"
	"slices"
	"testing"

	"loop.example/wharfhall/impl"
)

// The places of the objects in the hall's books, and of those services that are turned most.
const (
	hallGone = 2
	hallLate = 3
	hallLog  = 4
	hallWeb  = 6

	servedApi = 0
	servedWeb = 4
	servedZip = 5
)

// madeService is an object of a service, with what it asks for and its holds.
func madeService(name, team, told string, version int, holds ...string) impl.GateObject {
	return impl.GateObject{Kind: "service", Name: name, Team: team, Values: sixValues(told), Holds: holds, Version: version}
}

// hallBooks are books of yardHouse that are ok. Of the objects db, gone, late and old are Ending; gone may go, late is
// held by others than the hall, db has no copies left, old has one. log is of db and zip is of log. web follows its load.
func hallBooks() impl.HallBook {
	gate := impl.GateBook{Now: 30, Tick: 5, Given: 3,
		Objects: []impl.GateObject{
			madeService("api", "dock", "1,2,0,1,,", 10, "fleet"),
			ending(madeService("db", "yard", "2,3,1,2,,", 12, "audit", "fleet")),
			ending(madeService("gone", "dock", "1,1,0,1,,", 13)),
			ending(madeService("late", "mill", "1,0,0,1,,", 14, "audit")),
			madeService("log", "gang", "3,2,0,1,,db", 15, "fleet"),
			ending(madeService("old", "yard", "1,1,0,1,,", 30, "fleet")),
			madeService("web", "dock", "4,6,2,3,100,", 16, "audit", "fleet", "tax"),
			madeService("zip", "shed", "1,1,0,2,,log", 17, "fleet"),
		},
		Grants: yardHouse().Grants,
		Ledgers: []impl.GateLedger{
			ledger("dock", "copies", 0, 7),
			ledger("yard", "copies", 0, 9),
			ledger("yard", "service", 0, 4),
		},
		Purses: []impl.GatePurse{
			purse("d1", "dock", "copies", 9, 15),
			purse("d1", "yard", "copies", 20, 9),
			purse("d1", "yard", "service", 5, 8),
			purse("d2", "yard", "copies", 2, 5),
		},
	}
	return impl.HallBook{Gate: balanced(impl.HallLaw(yardHouse()), gate), Stew: hallFleet()}
}

// hallFleet is the stewards' book of hallBooks.
func hallFleet() impl.StewBook {
	return impl.StewBook{Now: 60,
		Services: []impl.StewService{
			{Name: "api", Version: 50, Image: 1, Want: 2, Over: 1, Next: 4},
			{Name: "db", Version: 51, Gone: true, Image: 2, Want: 3, Down: 1, Over: 2, Next: 5},
			{Name: "log", Version: 52, Image: 3, Want: 2, Over: 1, Next: 2},
			{Name: "old", Version: 53, Gone: true, Image: 1, Want: 1, Over: 1, Next: 3},
			{Name: "web", Version: webVersion, Image: 4, Want: 3, Down: 2, Over: 3, Next: 9, Per: 100, Most: 6, Load: 250, Cool: 2},
			{Name: "zip", Version: 54, Image: 1, Want: 1, Over: 2, Next: 1},
		},
		Copies: []impl.StewCopy{
			{Service: "api", Number: 1, Version: 20, Image: 1, State: impl.StewReady, Berth: "a"},
			{Service: "api", Number: 3, Version: 21, Image: 1, State: impl.StewReady, Berth: "b"},
			{Service: "log", Number: 1, Version: 22, Image: 2, State: impl.StewStarting, Berth: "a"},
			{Service: "old", Number: 2, Version: 23, Image: 1, State: impl.StewReady, Berth: "b"},
			{Service: "web", Number: 1, Version: 11, Image: 4, State: impl.StewReady, Berth: "a"},
			{Service: "web", Number: 2, Version: 12, Image: 3, State: impl.StewReady, Berth: "b"},
			{Service: "web", Number: 5, Version: 15, Image: 4, State: impl.StewWaiting},
			{Service: "web", Number: 8, Version: 18, Image: 4, State: impl.StewFailed, Ending: true, Berth: "a"},
		},
		Berths: []impl.StewBerth{{Name: "a"}, {Name: "b", Drain: true}},
	}
}

// turnedHall is hallBooks in which something is turned.
func turnedHall(turn func(b *impl.HallBook)) impl.HallBook {
	b := hallBooks()
	turn(&b)
	return b
}

func hallCopy(b impl.HallBook) impl.HallBook {
	return impl.HallBook{Gate: bookCopy(b.Gate), Stew: stewCopyBook(b.Stew)}
}

func sameHall(a, b impl.HallBook) bool {
	return sameBook(a.Gate, b.Gate) && sameStewBook(a.Stew, b.Stew)
}

func hallTold(b impl.HallBook) string {
	return fmt.Sprintf("%.1200q", fmt.Sprintf("%+v", b))
}

// crowdedHall are books of yardHouse with n services that ask for little, and so many objects beside them that are
// Ending, have lost the hall's hold and are held by others.
func crowdedHall(n, others int) impl.HallBook {
	b := impl.HallBook{Gate: impl.GateBook{Now: 9, Given: 3, Grants: yardHouse().Grants}, Stew: impl.StewBook{Now: 9}}
	for i, name := range names(n + others) {
		if i < n {
			b.Gate.Objects = append(b.Gate.Objects, madeService(name, "dock", "1,2,0,1,,", 4, "fleet"))
			b.Stew.Services = append(b.Stew.Services, impl.StewService{Name: name, Version: 5, Image: 1, Want: 2, Over: 1, Next: 1})
		} else {
			b.Gate.Objects = append(b.Gate.Objects, ending(madeService(name, "dock", "1,2,0,1,,", 4, "audit")))
		}
	}
	return b
}

// wrongHalls are books of yardHouse that are not ok.
func wrongHalls() map[string]impl.HallBook {
	books := map[string]impl.HallBook{}
	for what, turn := range tieTurns() {
		books["tie: "+what] = turnedHall(turn)
	}
	for what, spoil := range gateSpoilers() {
		books["gate: "+what] = turnedHall(func(b *impl.HallBook) { spoil(&b.Gate) })
	}
	for what, b := range wrongStewBooks() {
		books["stew: "+what] = impl.HallBook{Gate: hallBooks().Gate, Stew: b}
	}
	return books
}

// readEntry is the entry of a text, which has to have one.
func readEntry(t *testing.T, text string) impl.HallEntry {
	t.Helper()
	e, ok := impl.HallRead(text)
	if !ok {
		t.Fatalf("%q is not read", text)
	}
	return e
}

var handDecimal = regexp.MustCompile(`^(0|[1-9][0-9]{0,6})\z`)

// serviceByHand is what chapter 31 says of the service that an object asks for.
func serviceByHand(o impl.GateObject, old impl.StewService) impl.StewService {
	if len(o.Values) != 6 {
		return impl.StewService{}
	}
	var numbers [6]int
	for i, v := range o.Values {
		if handDecimal.MatchString(v) {
			numbers[i] = handNumber(v)
		}
	}
	s := impl.StewService{Name: o.Name, Gone: o.Ending, Image: numbers[0], Down: numbers[2], Over: numbers[3], Per: numbers[4]}
	if s.Per == 0 {
		s.Want = numbers[1]
	} else {
		s.Most, s.Load, s.Want = numbers[1], old.Load, old.Want
		if s.Want > s.Most {
			s.Want = s.Most
		}
	}
	return s
}

// tiedByHand is what chapter 31 says of the two books together.
func tiedByHand(b impl.HallBook) bool {
	served := map[string]impl.StewService{}
	for _, s := range b.Stew.Services {
		served[s.Name] = s
	}
	tied := len(served) == len(b.Stew.Services)
	for _, o := range b.Gate.Objects {
		s, there := served[o.Name]
		if there != slices.Contains(o.Holds, "fleet") || !there && !o.Ending {
			tied = false
		}
		asked := serviceByHand(o, s)
		asked.Version, asked.Next, asked.Cool = s.Version, s.Next, s.Cool
		tied = tied && (!there || s == asked)
		delete(served, o.Name)
	}
	return tied && len(served) == 0
}

func hallOkByHand(h impl.HallHouse, b impl.HallBook) bool {
	return impl.HallHouseOk(h) && impl.GateBookOk(impl.HallLaw(h), b.Gate) && validByHand(b.Stew) && tiedByHand(b)
}

// handHall brings an entry into books by the document's words.
type handHall struct {
	l impl.GateLaw
	b impl.HallBook
}

func hallDoByHand(h impl.HallHouse, b impl.HallBook, e impl.HallEntry) (impl.HallBook, impl.GateSaid) {
	if !hallOkByHand(h, b) {
		return impl.HallBook{}, impl.GateSaid{Code: 1}
	}
	if formByHand(e) == "" {
		return impl.HallBook{}, impl.GateSaid{Code: 2}
	}
	hand := &handHall{l: impl.HallLaw(h), b: hallCopy(b)}
	said := hand.bring(e)
	if said.Code != 0 {
		return hallCopy(b), said
	}
	return hand.b, said
}

func (h *handHall) bring(e impl.HallEntry) impl.GateSaid {
	switch e.Kind {
	case 1:
		return h.slip(e.Slip)
	case 6:
		return h.sweep()
	case 7:
		return h.act(e.Act)
	case 8:
		return h.sea(e.Sea)
	}
	call := purseCall{which: map[int]int{2: drawCall, 3: backCall, 4: boundCall, 5: tickCall}[e.Kind],
		door: e.Door, team: e.Team, resource: e.Resource, amount: e.Amount}
	gate, code := call.byHand(h.l, h.b.Gate)
	h.b.Gate = gate
	return impl.GateSaid{Code: code}
}

func (h *handHall) slip(s impl.GateSlip) impl.GateSaid {
	made, letGo := s.Ask.Verb == 1, s.Ask.Verb == 4
	if made && !slices.Contains(s.Ask.Holds, "fleet") || letGo && s.Ask.Hold == "fleet" {
		return impl.GateSaid{Code: 15}
	}
	gate, said := commitByHand(h.l, h.b.Gate, s)
	h.b.Gate = gate
	if said.Code == 0 && s.Ask.Verb <= 3 {
		if code := h.wish(s.Ask.Name); code != 0 {
			return impl.GateSaid{Code: 14, Place: code}
		}
	}
	return said
}

// wish tells the code of the wish of an object that is there.
func (h *handHall) wish(name string) int {
	var old impl.StewService
	if at := stewPlaceByHand(h.b.Stew, name); at >= 0 {
		old = h.b.Stew.Services[at]
	}
	at := placeIn(h.b.Gate, impl.GateObject{Kind: "service", Name: name})
	stew, code := seaByHand(h.b.Stew, wishOf(serviceByHand(h.b.Gate.Objects[at], old)))
	h.b.Stew = stew
	return code
}

func (h *handHall) sweep() impl.GateSaid {
	var told []string
	for _, at := range markByHand(h.l, h.b.Gate).list() {
		told = append(told, h.b.Gate.Objects[at].Name)
	}
	gate, code := sweepByHand(h.l, h.b.Gate)
	h.b.Gate = gate
	if code != 0 {
		return impl.GateSaid{Code: code}
	}
	for _, name := range told {
		if code := h.wish(name); code != 0 {
			return impl.GateSaid{Code: 14, Place: code}
		}
	}
	return impl.GateSaid{}
}

func (h *handHall) act(a impl.StewAct) impl.GateSaid {
	stew, code := applyByHand(h.b.Stew, a)
	h.b.Stew = stew
	if code != 0 {
		return impl.GateSaid{Code: 14, Place: code}
	}
	if a.Drop {
		if h.b.Gate.Now == 1000000 {
			return impl.GateSaid{Code: 11}
		}
		o := &h.b.Gate.Objects[placeIn(h.b.Gate, impl.GateObject{Kind: "service", Name: a.Service})]
		h.b.Gate.Now++
		o.Version = h.b.Gate.Now
		o.Holds = slices.DeleteFunc(o.Holds, func(hold string) bool { return hold == "fleet" })
	}
	return impl.GateSaid{Version: stew.Now}
}

func (h *handHall) sea(e impl.StewEvent) impl.GateSaid {
	stew, code := seaByHand(h.b.Stew, e)
	h.b.Stew = stew
	if code != 0 {
		return impl.GateSaid{Code: 14, Place: code}
	}
	return impl.GateSaid{Version: stew.Now}
}

func wantHallOk(t *testing.T, what string, h impl.HallHouse, b impl.HallBook, want bool) {
	t.Helper()
	if worded := hallOkByHand(h, b); worded != want {
		t.Errorf("%s: by the document's words %s is ok: %v", what, hallTold(b), worded)
	}
	if got := impl.HallOk(h, b); got != want {
		t.Errorf("%s: HallOk of %s = %v", what, hallTold(b), got)
	}
}

// wantHallDo asks for what is said, for the books that the document's words lead to, and for promise 35.
func wantHallDo(t *testing.T, what string, h impl.HallHouse, b impl.HallBook, e impl.HallEntry, said impl.GateSaid) impl.HallBook {
	t.Helper()
	want, worded := hallDoByHand(h, b, e)
	if worded != said {
		t.Errorf("%s: by the document's words %+v is said to %s in %s, not %+v", what, worded, entryTold(e), hallTold(b), said)
	}
	got, told := impl.HallDo(h, b, e)
	if told != said || !sameHall(got, want) {
		t.Errorf("%s: %s in %s is told %+v, not %+v, and leads to %s,\nnot to %s", what, entryTold(e), hallTold(b), told, said, hallTold(got), hallTold(want))
	}
	wantHallTied(t, what, h, b, got, told, impl.HallForm(e) != "")
	return got
}

// wantHallTied is what promise 35 says of one entry.
func wantHallTied(t *testing.T, what string, h impl.HallHouse, b, got impl.HallBook, said impl.GateSaid, formed bool) {
	t.Helper()
	ok := impl.HallOk(h, b)
	switch {
	case !ok || !formed:
		wantNothingSaid(t, what, got, said, map[bool]int{false: 1, true: 2}[ok])
	case said.Code == 0:
		wantHallOk(t, what, h, got, true)
	case !sameHall(got, b):
		t.Errorf("%s: %+v, and %s became %s", what, said, hallTold(b), hallTold(got))
	}
}

// wantNothingSaid asks for a code alone, and for books that are nothing.
func wantNothingSaid(t *testing.T, what string, got impl.HallBook, said impl.GateSaid, code int) {
	t.Helper()
	if said != (impl.GateSaid{Code: code}) || !sameHall(got, impl.HallBook{}) {
		t.Errorf("%s: %+v, not %d alone, and %s", what, said, code, hallTold(got))
	}
}

// wantDoneText asks that a text's entry is done in books of yardHouse.
func wantDoneText(t *testing.T, b impl.HallBook, text string, version int) impl.HallBook {
	t.Helper()
	return wantHallDo(t, text, yardHouse(), b, readEntry(t, text), impl.GateSaid{Version: version})
}

// wantToText asks that a text's entry is refused in books of yardHouse.
func wantToText(t *testing.T, b impl.HallBook, text string, said impl.GateSaid) {
	t.Helper()
	wantHallDo(t, text, yardHouse(), b, readEntry(t, text), said)
}

// hallSaid is an entry's text, and what is said to it.
type hallSaid struct {
	text string
	said impl.GateSaid
}

func wantToTexts(t *testing.T, b impl.HallBook, list []hallSaid) {
	t.Helper()
	for _, c := range list {
		wantToText(t, b, c.text, c.said)
	}
}

func codeAlone(code int) impl.GateSaid {
	return impl.GateSaid{Code: code}
}

func undone(place int) impl.GateSaid {
	return impl.GateSaid{Code: 14, Place: place}
}
