package tests

import (
	"fmt"
	"slices"
	"testing"

	"loop.example/wharfhall/impl"
)

// diceFleetWorld is an ok world: the Past books are what drift led on from.
func diceFleetWorld(d *dice) impl.StewWorld {
	w := impl.StewWorld{Book: diceView(d)}
	for range d.below(impl.StewMaxPast + 1) {
		w.Past = append(w.Past, w.Book)
		if w.Book.Now < impl.StewMaxNumber && d.below(5) > 0 {
			w.Book = drift(d, w.Book)
		}
	}
	return copyFleetWorld(w)
}

// turnFleetWorld turns one thing of a world.
func turnFleetWorld(d *dice, w *impl.StewWorld) {
	switch d.below(5) {
	case 0:
		turnStewBook(d, &w.Book)
	case 1:
		w.Past = turnedAround(d, w.Past)
	case 2:
		for len(w.Past) < impl.StewMaxPast+d.below(2) {
			w.Past = append(w.Past, stewCopyBook(w.Book))
		}
	case 3:
		w.Past = append(w.Past, impl.StewBook{Now: w.Book.Now + d.below(3) - 1})
	default:
		if len(w.Past) > 0 {
			turnStewBook(d, &w.Past[d.below(len(w.Past))])
		}
	}
}

func diceMove(d *dice, w impl.StewWorld) impl.StewMove {
	m := impl.StewMove{Steward: 1 + d.below(6), Age: oneOf(d, 0, 0, 0, 1, 1, 2, 3, d.below(12)-1)}
	if d.below(5) > 1 {
		return m
	}
	m.Steward, m.Event = oneOf(d, 0, 0, 7, -1), diceSeaEvent(d, w.Book)
	if m.Event.Kind == impl.StewSink && d.below(4) > 0 {
		m.Event = tickOf()
	}
	if d.below(6) == 0 {
		turnEvent(d, &m.Event)
	}
	return m
}

// diceOrder is an order of some stewards, some of them told again, with numbers that are none of theirs.
func diceOrder(d *dice) []int {
	var order []int
	for range d.below(12) {
		order = append(order, d.below(9)-1)
	}
	return order
}

// wantDrawnMove does a move as the document's words do, with promises 14, 16 and 17 on the way.
func wantDrawnMove(t *testing.T, w impl.StewWorld, m impl.StewMove) (impl.StewWorld, []int) {
	t.Helper()
	kept := copyFleetWorld(w)
	_, codes := moveByHand(w, m)
	if !fleetOkByHand(w) {
		wantFleetOk(t, "drawn", w, false)
		return impl.StewWorld{}, codes
	}
	got := wantMove(t, "drawn", w, m, codes...)
	if m.Steward < 1 || m.Steward > 6 {
		wantKeptOrNext(t, "drawn", w.Book, got.Book, codes[0])
	} else {
		wantActsOnTheWay(t, w, m, got.Book, codes)
	}
	if !sameFleetWorld(w, kept) {
		t.Fatalf("%s was written into: it was %s", fleetWorldTold(w), fleetWorldTold(kept))
	}
	return got, codes
}

func wantActsOnTheWay(t *testing.T, w impl.StewWorld, m impl.StewMove, got impl.StewBook, codes []int) {
	t.Helper()
	b := w.Book
	for i, a := range impl.StewAsk(m.Steward, viewByHand(w, m.Age)) {
		late := isLate(b, a)
		next, code := wantDrawnAct(t, b, a)
		if code != codes[i] || late && code != 3 && code != 4 {
			t.Errorf("%s of %s is late: %v, and has the code %d, which is told as %v", actTold(a), stewTold(b), late, code, codes)
		}
		b = next
	}
	if !sameStewBook(got, b) {
		t.Errorf("%s of %s gives %s, and act by act %s", moveTold(m), fleetWorldTold(w), stewTold(got), stewTold(b))
	}
}

func TestDrawnFleetWorlds(t *testing.T) {
	t.Parallel()
	d := &dice{state: 1914}
	seen := map[string]int{}
	for range 1800 {
		w := diceFleetWorld(d)
		wantFleetOk(t, "drawn", w, true)
		for range 3 {
			m := diceMove(d, w)
			_, codes := wantDrawnMove(t, w, m)
			for _, code := range codes {
				seen[fmt.Sprint("events: ", m.Event.Kind > 0, " code ", code)]++
			}
			seen[count(len(codes))+" codes"]++
		}
		rounds := d.below(6) - 1
		wantCalm(t, "drawn", w, rounds, diceOrder(d))
		for range 1 + d.below(2) {
			turnFleetWorld(d, &w)
		}
		ok := fleetOkByHand(w)
		seen[fmt.Sprint("ok: ", ok)]++
		wantFleetOk(t, "turned", w, ok)
		wantDrawnMove(t, w, diceMove(d, w))
	}
	wantSeen(t, seen, 30, "ok: true", "ok: false", "0 codes", "1 codes", "2 codes", "3 codes", "events: true code 0",
		"events: true code 3", "events: true code 7", "events: false code 0", "events: false code 4", "events: false code 7")
}

// fleetJourney draws moves from the world with nothing on.
func fleetJourney(t *testing.T, d *dice, moves int, see func(m impl.StewMove, codes []int)) impl.StewWorld {
	t.Helper()
	var w impl.StewWorld
	for range moves {
		m := diceMove(d, w)
		got, codes := wantDrawnMove(t, w, m)
		see(m, codes)
		w = got
	}
	return w
}

func TestDrawnJourneysOfAFleet(t *testing.T) {
	t.Parallel()
	d := &dice{state: 1916}
	seen := map[string]int{}
	for range 100 {
		fleetJourney(t, d, 150, func(m impl.StewMove, codes []int) {
			for _, code := range codes {
				seen[count(m.Steward)+" code "+count(code)]++
			}
		})
	}
	wantSeen(t, seen, 40, "0 code 0", "7 code 0", "-1 code 0", "0 code 2", "0 code 3", "1 code 0", "1 code 4", "2 code 0", "3 code 0", "4 code 0", "4 code 4", "5 code 0", "6 code 0")
	wantSeen(t, seen, 10, "0 code 4", "2 code 4", "3 code 3", "3 code 4", "5 code 3", "5 code 4", "6 code 4")
}

// later is a world as it would be if so many changes more were ahead of all that it knows, and so many copies more had been.
func later(w impl.StewWorld, changes, copies int) impl.StewWorld {
	w = copyFleetWorld(w)
	for _, b := range append(slices.Clone(w.Past), w.Book) {
		for i := range b.Services {
			b.Services[i].Version += changes
			b.Services[i].Next += copies
		}
		for i := range b.Copies {
			b.Copies[i].Version += changes
			b.Copies[i].Number += copies
		}
	}
	for i := range w.Past {
		w.Past[i].Now += changes
	}
	w.Book.Now += changes
	return w
}

// shaken is a world behind a row of wishes, faults, loads and drains that no steward has seen yet.
func shaken(t *testing.T, d *dice, w impl.StewWorld) impl.StewWorld {
	t.Helper()
	for range d.below(20) {
		if e := diceSeaEvent(d, w.Book); e.Kind != impl.StewTick && e.Kind != impl.StewSink {
			w, _ = wantDrawnMove(t, w, seaMove(e))
		}
	}
	return w
}

func hasOpenBerth(b impl.StewBook) bool {
	return slices.ContainsFunc(b.Berths, func(berth impl.StewBerth) bool { return !berth.Drain })
}

// wantRest is what promises 20 and 21 say; it tells how many rounds it took until all was done.
func wantRest(t *testing.T, d *dice, w impl.StewWorld) int {
	t.Helper()
	order := diceOrder(d)
	end := impl.StewCalm(w, 300, order)
	if !impl.StewDone(end.Book) {
		t.Fatalf("behind 300 rounds in the order %v %s is %s", order, fleetWorldTold(w), fleetWorldTold(end))
	}
	for _, other := range [][]int{order, nil, diceOrder(d)} {
		if more := impl.StewCalm(end, 1+d.below(40), other); !impl.StewDone(more.Book) || !slices.Equal(more.Book.Copies, end.Book.Copies) {
			t.Errorf("%s did not stay done: %s", fleetWorldTold(end), fleetWorldTold(more))
		}
	}
	rounds := 0
	step := w
	for ; rounds < 300 && !impl.StewDone(step.Book); rounds++ {
		step = wantRound(t, step, order)
	}
	if !impl.StewDone(step.Book) || !sameFleetWorld(step, impl.StewCalm(w, rounds, order)) {
		t.Errorf("%d rounds, one by one, are not %d rounds of %s", rounds, rounds, fleetWorldTold(w))
	}
	return rounds
}

// wantRound is a round of calm, move by move, in which each act is done.
func wantRound(t *testing.T, w impl.StewWorld, order []int) impl.StewWorld {
	t.Helper()
	step, codes := impl.StewDo(w, seaMove(tickOf()))
	for _, kind := range turnsByHand(order) {
		next, told := impl.StewDo(step, stewardMove(kind, 0))
		step, codes = next, append(codes, told...)
	}
	if slices.ContainsFunc(codes, func(code int) bool { return code != 0 }) {
		t.Errorf("a round of %s in the order %v has the codes %v", fleetWorldTold(w), order, codes)
	}
	if calm := impl.StewCalm(w, 1, order); !sameFleetWorld(calm, step) {
		t.Errorf("a round of %s in the order %v is %s, and move by move %s", fleetWorldTold(w), order, fleetWorldTold(calm), fleetWorldTold(step))
	}
	return step
}

// P20 and P21, over many journeys; and near the last Now and the last Next that they speak of.
func TestDrawnFleetsComeToRest(t *testing.T) {
	t.Parallel()
	d := &dice{state: 1920}
	seen := map[string]int{}
	for range 100 {
		w := shaken(t, d, fleetJourney(t, d, 40+d.below(100), func(impl.StewMove, []int) {}))
		if !hasOpenBerth(w.Book) {
			w, _ = wantDrawnMove(t, w, seaMove(raiseOf(oneOf(d, "a", "b"), false)))
		}
		rounds := wantRest(t, d, w)
		seen["rounds"] += rounds
		seen["services"] += len(w.Book.Services)
		seen["copies"] += len(w.Book.Copies)
		for i, n := range impl.StewRank(w.Book) {
			seen["rank "+count(i)] += n
		}
		aged := later(w, 900000-w.Book.Now, 899000)
		if !impl.StewWorldOk(aged) || wantRest(t, d, aged) == 0 && rounds > 0 {
			t.Errorf("%s is another one later: %s", fleetWorldTold(w), fleetWorldTold(aged))
		}
	}
	wantSeen(t, seen, 20, "rounds", "services", "copies", "rank 0", "rank 1", "rank 2", "rank 3", "rank 4")
}

// hardFleet is a fleet with all that there may be to do: services at the limits, of which all copies are old, on a
// berth that is to be drained, and more than are wanted; one may be down, or over.
func hardFleet(t *testing.T, d *dice) impl.StewWorld {
	t.Helper()
	w := wantMove(t, "a berth", impl.StewWorld{}, seaMove(raiseOf("a", false)), 0)
	wish := func(s impl.StewService) { w = wantMove(t, "a wish", w, seaMove(wishOf(s)), 0) }
	for _, name := range names(1 + d.below(impl.StewMaxServices)) {
		wish(impl.StewService{Name: name, Image: 1, Want: 10, Over: 3})
	}
	w = impl.StewCalm(w, 4, nil)
	for i := range w.Book.Services {
		s := impl.StewService{Name: w.Book.Services[i].Name, Image: 2, Want: 7 + d.below(4), Over: 1 - d.below(2)}
		s.Down = 1 - s.Over
		if d.below(2) == 0 {
			s.Per, s.Least, s.Most, s.Load = 10, d.below(3), oneOf(d, 5, 10), d.below(120)
		}
		wish(s)
	}
	for _, c := range w.Book.Copies {
		if d.below(10) == 0 {
			w = wantMove(t, "a fault", w, seaMove(failOf(c.Service, c.Number)), 0)
		}
	}
	w = wantMove(t, "a drain", w, seaMove(raiseOf("a", true)), 0)
	return wantMove(t, "another berth", w, seaMove(raiseOf(oneOf(d, "0", "b"), false)), 0)
}

func TestHardFleetsComeToRest(t *testing.T) {
	d := &dice{state: 1921}
	most := 0
	for range 12 {
		most = max(most, wantRest(t, d, hardFleet(t, d)))
	}
	if most < 30 {
		t.Errorf("the longest took %d rounds only", most)
	}
}

// Without a berth that is not to be drained there is no rest, as long as copies are wanted; with one there is.
func TestNoRestWithoutABerth(t *testing.T) {
	d := &dice{state: 1923}
	for _, past := range []impl.StewEvent{sinkOf("a"), raiseOf("a", true)} {
		w := impl.StewWorld{Book: crewBook(3, 1, 1, "R R F")}
		w = wantMove(t, "no open berth", w, seaMove(past), 0)
		end := wantCalm(t, "no open berth", w, 60, nil)
		if impl.StewDone(end.Book) || !slices.ContainsFunc(end.Book.Copies, func(c impl.StewCopy) bool { return c.State == impl.StewWaiting }) {
			t.Error(fleetWorldTold(end))
		}
		wantRest(t, d, wantMove(t, "an open berth", end, seaMove(raiseOf("c", false)), 0))
	}
}

// P22, over journeys and drawn worlds, and at the ends.
func TestDrawnCalmIsCalmAndCalm(t *testing.T) {
	t.Parallel()
	d := &dice{state: 1922}
	for range 150 {
		w := diceFleetWorld(d)
		if d.below(3) == 0 {
			w = fleetJourney(t, d, d.below(40), func(impl.StewMove, []int) {})
		}
		order := diceOrder(d)
		a, b := d.below(30), d.below(30)
		wantBoth(t, w, a, b, order)
		wantBoth(t, w, 0, a, order)
		wantBoth(t, w, a, 0, order)
	}
	for _, a := range []int{0, 1, 400, 999, 1000} {
		wantBoth(t, impl.StewWorld{Past: emptyBooks(3), Book: busyFleet()}, a, impl.StewMaxCalm-a, diceOrder(d))
		wantBoth(t, impl.StewWorld{}, a, impl.StewMaxCalm-a, nil)
	}
}

func wantBoth(t *testing.T, w impl.StewWorld, a, b int, order []int) {
	t.Helper()
	both, once := impl.StewCalm(impl.StewCalm(w, a, order), b, order), impl.StewCalm(w, a+b, order)
	if !sameFleetWorld(both, once) || !impl.StewWorldOk(once) {
		t.Errorf("%d and %d rounds of %s in the order %v are %s,\nnot %s", a, b, fleetWorldTold(w), order, fleetWorldTold(both), fleetWorldTold(once))
	}
}
