package tests

import (
	"testing"

	"loop.example/wharfhall/impl"
)

// crewCare is a crew in which one steward has something to do, and no steward ahead of it.
type crewCare struct {
	steward int
	stew    impl.StewBook
	form    string
}

func crewCares() []crewCare {
	return []crewCare{
		{impl.StewCounter, crewBook(2, 1, 1, "R"), "act 500 web 9 1 * * *"},
		{impl.StewCounter, crewBook(2, 1, 1, "R R R"), "act 500 web 9 0 * 3:13 *"},
		{impl.StewWaver, crewBook(2, 1, 1, "Ro R"), "act 500 web 9 1 * * *"},
		{impl.StewWaver, crewBook(2, 1, 1, "Ro R R"), "act 500 web 9 0 * 1:11 *"},
		{impl.StewMender, crewBook(3, 1, 1, "R F R"), "act 500 web 9 0 * 2:12 *"},
		{impl.StewScaler, loadedCrew(25, 0, 5, 2, 0), "act 500 web 9 0 3:0 * *"},
		{impl.StewScaler, loadedCrew(15, 0, 5, 2, 3), "act 500 web 9 0 2:0 * *"},
		{impl.StewScaler, loadedCrew(5, 0, 5, 2, 3), "act 500 web 9 0 1:0 * *"},
		{impl.StewSweeper, goneCrew("R S W"), "act 500 web 9 0 * 1:11,2:12,3:13 *"},
		{impl.StewSweeper, goneCrew(""), "act 500 web 9 0 * * drop"},
		{impl.StewDrainer, crewBook(2, 1, 1, "Rd R"), "act 500 web 9 1 * * *"},
		{impl.StewDrainer, crewBook(2, 1, 1, "R Rd R"), "act 500 web 9 0 * 2:12 *"},
	}
}

// What a steward asks for is next, whatever the number is: an act has a Number of its own.
func TestAnActIsNext(t *testing.T) {
	for _, c := range crewCares() {
		for steward := impl.StewCounter; steward <= c.steward; steward++ {
			if acts := impl.HallActs(yardHouse(), hallOf(c.stew), steward); len(acts) > 0 != (steward == c.steward) {
				t.Errorf("%s: %d asks for %q", c.form, steward, formsOf(acts))
			}
		}
		for _, number := range []int{0, 1, 7, 500, impl.HallMaxNumber, impl.HallMaxNumber + 1, -1, -1 << 63, 1<<63 - 1} {
			wantNextForm(t, c.form, hallOf(c.stew), number, c.form)
		}
	}
}

// joined is a book of the crews of two books, the second one's service being behind the first one's.
func joined(a, b impl.StewBook) impl.StewBook {
	out := stewCopyBook(a)
	for _, s := range b.Services {
		s.Name = "z" + s.Name
		out.Services = append(out.Services, s)
	}
	for _, c := range b.Copies {
		c.Service = "z" + c.Service
		out.Copies = append(out.Copies, c)
	}
	return out
}

// Of two acts the one of the first steward is next, though its service is behind the other's; of two of one steward the
// first in order.
func TestTheFirstActIsNext(t *testing.T) {
	behind := func(form string) string { return withWord(form, 2, "zweb") }
	for _, a := range crewCares() {
		for _, b := range crewCares() {
			form := a.form
			if b.steward < a.steward {
				form = behind(b.form)
			}
			wantNextForm(t, "of two", hallOf(joined(a.stew, b.stew)), 7, form)
		}
	}
	// The acts come ahead of a sweep, too: in the hall's books gone may go, and log is to be told.
	wantNextForm(t, "the hall's books", hallBooks(), 7, "act 60 log 52 1 * * *")
}

// sweepHalls are books in which no steward asks for anything, and there is something to sweep.
func sweepHalls() map[string]impl.HallBook {
	leaving := goneCrew("Re")
	out := map[string]impl.HallBook{
		"going alone":              hallOf(restFleet(), ending(madeService("gone", "dock", "1,1,0,1,,", 5))),
		"going, and no services":   hallOf(impl.StewBook{}, ending(madeService("gone", "dock", "1,1,0,1,,", 5))),
		"several are going":        hallOf(restFleet(), ending(madeService("a", "dock", "1,1,0,1,,", 5)), ending(madeService("b", "dock", "1,1,0,1,,a", 5))),
		"going, and Stew not done": hallOf(crewBook(2, 1, 1, "S S"), ending(madeService("gone", "dock", "1,1,0,1,,", 5))),
		"going in a circle":        hallOf(restFleet(), ending(madeService("a", "dock", "1,1,0,1,,b", 5)), ending(madeService("b", "dock", "1,1,0,1,,a", 5))),
	}
	marked := hallOf(joined(leaving, crewBook(2, 1, 1, "R R")))
	marked.Gate.Objects[1].Values[5] = "web"
	out["marked alone"] = marked
	held := hallOf(restFleet(), ending(madeService("late", "mill", "1,5,0,1,,", 7, "audit")))
	held.Gate.Objects[0].Values[5] = "late"
	out["marked alone, and Stew done"] = held
	both := hallOf(joined(leaving, crewBook(2, 1, 1, "R R")), ending(madeService("gone", "dock", "1,1,0,1,,", 5)))
	both.Gate.Objects[2].Values[5] = "web"
	out["marked and going"] = both
	return out
}

func TestASweepIsNext(t *testing.T) {
	l := impl.HallLaw(yardHouse())
	for what, b := range sweepHalls() {
		mark, going := len(impl.GateMark(l, b.Gate)), len(impl.GateGoing(l, b.Gate))
		if mark+going == 0 {
			t.Errorf("%s: there is nothing to sweep in %s", what, hallTold(b))
		}
		wantNumbersNext(t, what, b, "sweep 7")
	}
	alone := sweepHalls()
	if b := alone["marked alone"]; len(impl.GateGoing(l, b.Gate)) != 0 {
		t.Errorf("something goes in %s", hallTold(b))
	}
	if b := alone["going alone"]; len(impl.GateMark(l, b.Gate)) != 0 {
		t.Errorf("something is to be told in %s", hallTold(b))
	}
}

// wantNumbersNext asks for a sweep or a tick with any number, and for nothing where it has no form so.
func wantNumbersNext(t *testing.T, what string, b impl.HallBook, form string) {
	t.Helper()
	for _, number := range []int{1, 7, 500000, 500001, impl.HallMaxNumber} {
		wantNextForm(t, what, b, number, withWord(form, 1, count(number)))
	}
	for _, number := range []int{0, -1, impl.HallMaxNumber + 1, 9999999, -1 << 63, 1<<63 - 1} {
		wantNextForm(t, what, b, number, "")
	}
}

func TestATickIsNext(t *testing.T) {
	for what, stew := range map[string]impl.StewBook{
		"starting":           crewBook(2, 1, 1, "S R"),
		"waiting":            crewBook(2, 1, 1, "W W"),
		"one is Ending":      crewBook(2, 1, 1, "R R Re"),
		"one failed, Ending": crewBook(2, 1, 1, "R R Fe"),
		"gone, all Ending":   goneCrew("Re Se"),
		"the new one starts": crewBook(2, 0, 1, "Ro Ro S"),
	} {
		wantNumbersNext(t, what, hallOf(stew), "sea 7 tick")
		wantNumbersNext(t, what, hallOf(stew, ending(madeService("late", "dock", "1,1,0,1,,", 5, "audit"))), "sea 7 tick")
	}
	none := crewBook(2, 1, 1, "W W")
	none.Berths = nil
	wantNumbersNext(t, "without a berth", hallOf(none), "sea 7 tick")
}

func TestNothingIsNext(t *testing.T) {
	for what, b := range map[string]impl.HallBook{
		"first": impl.HallFirst(yardHouse()), "nothing": {}, "at rest": restHall(), "berths alone": {Stew: stewBerths("a", "b")},
		"held by others": hallOf(impl.StewBook{}, ending(madeService("late", "dock", "1,1,0,1,,", 5, "audit"))),
		"one, at rest":   hallOf(crewBook(2, 1, 1, "R R")),
	} {
		for _, number := range []int{0, 1, 7, impl.HallMaxNumber, impl.HallMaxNumber + 1} {
			wantNextForm(t, what, b, number, "")
		}
	}
}

func TestNothingIsNextInBooksThatAreNotOk(t *testing.T) {
	for what, b := range wrongHalls() {
		for _, number := range []int{0, 1, impl.HallMaxNumber} {
			if e, ok := wantNext(t, what, yardHouse(), b, number); ok {
				t.Errorf("%s: next is %q", what, impl.HallForm(e))
			}
		}
	}
	for what, h := range wrongHouses() {
		for _, b := range []impl.HallBook{hallBooks(), hallOf(crewBook(2, 1, 1, "S R")), sweepHalls()["going alone"]} {
			if e, ok := wantNext(t, what, h, b, 7); ok {
				t.Errorf("%s: next is %q", what, impl.HallForm(e))
			}
		}
	}
}

// Promise 43 where something is at its end: what is next is told all the same, and is refused as the promise says.
func TestWhatIsNextAtTheEnds(t *testing.T) {
	last := func(b impl.HallBook, gate, stew int) impl.HallBook {
		b = hallCopy(b)
		b.Gate.Now, b.Stew.Now = gate, stew
		return b
	}
	const end = impl.GateMaxVersion
	full := goneFleet(25)
	for i := range full.Copies {
		full.Copies[i].Ending = true
	}
	for i := range full.Services {
		full.Services[i].Gone, full.Services[i].Want = false, 2
	}
	numbered := crewBook(2, 1, 1, "R")
	numbered.Services[0].Next = impl.StewMaxNumber
	marked, going, drop := sweepHalls()["marked alone"], sweepHalls()["going alone"], hallOf(goneCrew(""))
	for _, c := range []struct {
		what string
		b    impl.HallBook
		said impl.GateSaid
	}{
		{"copies", hallOf(full), undone(7)},
		{"a Next", hallOf(numbered), undone(7)},
		{"the stewards' Now, of an act", last(hallOf(crewBook(2, 1, 1, "R")), 90, end), undone(7)},
		{"the stewards' Now, of a tick", last(hallOf(crewBook(2, 1, 1, "S R")), 90, end), undone(7)},
		{"the stewards' Now, of a sweep", last(marked, 90, end), undone(7)},
		{"the stewards' Now, of a sweep that tells nobody", last(going, 90, end), impl.GateSaid{}},
		{"the gate's Now, of a drop", last(drop, end, 500), codeAlone(11)},
		{"both, of a drop", last(drop, end, end), undone(7)},
		{"the gate's Now, of an act", last(hallOf(crewBook(2, 1, 1, "R")), end, 500), impl.GateSaid{Version: 501}},
		{"the gate's Now, of a sweep", last(marked, end, 500), codeAlone(3)},
		{"both, of a sweep", last(marked, end, end), codeAlone(3)},
		{"the gate's Now, of a sweep that tells nobody", last(going, end, 500), impl.GateSaid{}},
		{"the gate's Now, of a tick", last(hallOf(crewBook(2, 1, 1, "S R")), end, 500), impl.GateSaid{Version: 501}},
		{"one before both", last(marked, end-1, end-1), impl.GateSaid{}},
		{"one before both, of a drop", last(drop, end-1, end-1), impl.GateSaid{Version: end}},
	} {
		wantHallOk(t, c.what, yardHouse(), c.b, true)
		e, ok := wantNext(t, c.what, yardHouse(), c.b, 7)
		if !ok {
			t.Errorf("%s: nothing is next in %s", c.what, hallTold(c.b))
			continue
		}
		wantHallDo(t, c.what, yardHouse(), c.b, e, c.said)
	}
}

// From next to next, all comes to what was asked for, and then there is nothing more: of what a day was at any time.
func TestFromNextToNext(t *testing.T) {
	h, day := yardHouse(), dayTexts()
	for n := range len(day) + 1 {
		b := impl.HallState(h, append(day[:n:n], "sea 99 raise b"))
		steps := 0
		for e, ok := wantNext(t, "of a day", h, b, 1000); ok && steps < 200; e, ok = wantNext(t, "of a day", h, b, 1000+steps) {
			b, _ = impl.HallDo(h, b, e)
			steps++
		}
		l := impl.HallLaw(h)
		if steps == 200 || !impl.StewDone(b.Stew) || len(impl.GateMark(l, b.Gate))+len(impl.GateGoing(l, b.Gate)) != 0 {
			t.Errorf("behind %d texts and %d steps it is %s", n, steps, hallTold(b))
		}
	}
}
