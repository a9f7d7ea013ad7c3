package tests

import (
	"slices"
	"testing"

	"loop.example/wharfhall/impl"
)

func TestHowManyRoundsGoBy(t *testing.T) {
	w := impl.StewWorld{Past: emptyBooks(3, 5), Book: busyFleet()}
	for _, rounds := range []int{-1 << 62, -1000, -1, 0} {
		if got := impl.StewCalm(w, rounds, nil); !sameFleetWorld(got, w) {
			t.Errorf("%d rounds: %s", rounds, fleetWorldTold(got))
		}
	}
	for _, rounds := range []int{1, 2, 3, 10, 30} {
		wantCalm(t, "busy", w, rounds, nil)
	}
	still := impl.StewWorld{Book: calmBook()}
	for rounds, want := range map[int]int{1: 91, 7: 97, 999: 1089, 1000: 1090, 1001: 1090, 5000: 1090, 1<<62 - 1: 1090} {
		got := impl.StewCalm(still, rounds, nil)
		if got.Book.Now != want || len(got.Past) != min(rounds, impl.StewMaxPast) || got.Past[len(got.Past)-1].Now != want-1 {
			t.Errorf("%d rounds: %s", rounds, fleetWorldTold(got))
		}
		got.Book.Now = 90
		if !sameStewBook(got.Book, calmBook()) {
			t.Errorf("%d rounds: %s", rounds, fleetWorldTold(got))
		}
	}
}

func TestRoundsOfNothing(t *testing.T) {
	for rounds := range 12 {
		got := wantCalm(t, "nothing", impl.StewWorld{}, rounds, nil)
		if got.Book.Now != rounds || len(got.Past) != min(rounds, 8) {
			t.Errorf("%d rounds: %s", rounds, fleetWorldTold(got))
		}
	}
}

// Where no change is possible any more, the world is as it was.
func TestRoundsWhereNowIsTheLast(t *testing.T) {
	last := impl.StewWorld{Past: emptyBooks(1), Book: lastFleet(impl.StewMaxNumber)}
	for _, rounds := range []int{1, 2, 1000} {
		if got := impl.StewCalm(last, rounds, []int{3, 1}); !sameFleetWorld(got, last) {
			t.Errorf("%d rounds: %s", rounds, fleetWorldTold(got))
		}
	}
	for before := range 6 {
		w := impl.StewWorld{Book: lastFleet(impl.StewMaxNumber - before)}
		for rounds := range 4 {
			wantCalm(t, "near the last", w, rounds, []int{5, 4, 3})
		}
	}
}

// crewRow tells the copies of the one service round by round.
func crewRow(t *testing.T, b impl.StewBook, rounds int, order ...int) []string {
	t.Helper()
	w := impl.StewWorld{Book: b}
	var row []string
	for range rounds {
		w = wantCalm(t, "round by round", w, 1, order)
		told := ""
		for _, c := range w.Book.Copies {
			told += count(c.Number) + "WSRF"[c.State-1:c.State]
			if c.Ending {
				told += "e"
			}
		}
		row = append(row, told)
	}
	return row
}

func wantCrewRow(t *testing.T, what string, got []string, want ...string) {
	t.Helper()
	if !slices.Equal(got, want) {
		t.Errorf("%s: %q, not %q", what, got, want)
	}
}

// The tick comes ahead of all stewards: what they ask for has its first tick in the round behind.
func TestTheTickComesFirst(t *testing.T) {
	wantCrewRow(t, "new copies wait", crewRow(t, crewBook(2, 1, 1, ""), 4), "1W2W", "1S2S", "1R2R", "1R2R")
	wantCrewRow(t, "what is Ending goes", crewRow(t, crewBook(1, 1, 1, "Re R"), 1), "2R")
	wantCrewRow(t, "one that got ready lets another end", crewRow(t, crewBook(1, 0, 1, "Ro S"), 2), "1Re2R", "2R")
	w := wantCalm(t, "dropped behind its last copy", impl.StewWorld{Book: goneCrew("Re Fe")}, 1, nil)
	if len(w.Book.Services)+len(w.Book.Copies) != 0 || w.Book.Now != 502 || !sameStewBook(w.Past[0], goneCrew("Re Fe")) {
		t.Error(fleetWorldTold(w))
	}
}

// Each steward sees what those ahead of it did, and none sees what those behind it do.
func TestTheOrderOfTheStewards(t *testing.T) {
	failed := crewBook(1, 1, 1, "F")
	wantCrewRow(t, "the mender first", crewRow(t, failed, 2, 3, 1), "1Fe2W", "2S")
	wantCrewRow(t, "the counter first", crewRow(t, failed, 3, 1, 3), "1Fe", "2W", "2S")
	wantCrewRow(t, "as they are numbered", crewRow(t, failed, 2), "1Fe", "2W")
	waved := crewBook(2, 1, 1, "Ro Ro")
	wantCrewRow(t, "the waver alone", crewRow(t, waved, 4, 2), "1R2R3W", "1R2Re3S", "1R3R4W", "1Re3R4S")
	lone := crewBook(1, 0, 1, "Ro F")
	wantCrewRow(t, "the mender ahead of the waver", crewRow(t, lone, 2, 3, 2), "1R2Fe3W", "1R3S")
	wantCrewRow(t, "the waver ahead of the mender", crewRow(t, lone, 2, 2, 3), "1R2Fe", "1R3W")
	scaled := loadedCrew(30, 1, 4, 2, 0)
	wantCrewRow(t, "the scaler ahead of the counter", crewRow(t, scaled, 1, 4, 1), "1R2R3W")
	wantCrewRow(t, "the counter ahead of the scaler", crewRow(t, scaled, 2, 1, 4), "1R2R", "1R2R3W")
	wantCrewRow(t, "the sweeper has all end", crewRow(t, goneCrew("R F W"), 2), "1Re2Fe3Se", "")
	wantCrewRow(t, "the mender ahead of the sweeper", crewRow(t, goneCrew("R F R"), 1, 3, 5), "1Re2Fe3Re")
}

// wantSameOrders asks that orders which tell the same stewards in the same order are one.
func wantSameOrders(t *testing.T, w impl.StewWorld, orders ...[]int) impl.StewWorld {
	t.Helper()
	first := wantCalm(t, "an order", w, 3, orders[0])
	for _, order := range orders[1:] {
		if got := impl.StewCalm(w, 3, order); !sameFleetWorld(got, first) {
			t.Errorf("%v is another order than %v: %s,\nnot %s", order, orders[0], fleetWorldTold(got), fleetWorldTold(first))
		}
	}
	return first
}

func TestOrdersThatAreTheSame(t *testing.T) {
	w := impl.StewWorld{Book: busyFleet()}
	plain := wantSameOrders(t, w, nil, []int{}, []int{1}, []int{1, 2, 3}, []int{1, 2, 3, 4, 5, 6}, []int{0}, []int{7}, []int{-1, 99, -3},
		[]int{1, 1, 1, 1}, []int{1, 2, 1, 2, 3, 3, 4, 4, 5, 6, 6}, []int{0, 1, 7, 2, -2, 3, 1 << 62, 4, -1 << 62, 5})
	turned := wantSameOrders(t, w, []int{6, 5, 4, 3, 2, 1}, []int{6, 5, 4, 3, 2}, []int{6, 6, 5, 0, 4, 6, 3, 9, 2, 6, 5, 4, 3, 1, 1})
	some := wantSameOrders(t, w, []int{3, 5}, []int{3, 5, 1, 2, 4, 6}, []int{0, 3, 3, 5, 3, 7}, []int{3, 5, 5, 1})
	if sameFleetWorld(plain, turned) || sameFleetWorld(plain, some) || sameFleetWorld(turned, some) {
		t.Error("the orders do not tell")
	}
	long := make([]int, 100000)
	long[50000], long[99999] = 6, 3
	wantSameOrders(t, w, []int{6, 3}, long)
}

// ordersOf are all orders of some stewards.
func ordersOf(kinds ...int) [][]int {
	if len(kinds) == 0 {
		return [][]int{nil}
	}
	var out [][]int
	for i, first := range kinds {
		others := slices.Delete(slices.Clone(kinds), i, i+1)
		for _, rest := range ordersOf(others...) {
			out = append(out, append([]int{first}, rest...))
		}
	}
	return out
}

func TestAllOrders(t *testing.T) {
	orders := ordersOf(1, 2, 3, 4, 5, 6)
	if len(orders) != 720 {
		t.Fatal(len(orders))
	}
	w := impl.StewWorld{Past: emptyBooks(1), Book: busyFleet()}
	ends := map[string]int{}
	for _, order := range orders {
		ends[stewTold(wantCalm(t, "an order", w, 2, order).Book)]++
	}
	if len(ends) < 20 {
		t.Errorf("720 orders led to %d books only", len(ends))
	}
}

// Calm is the moves of its rounds, one by one: the tick, and each steward with an Age of 0.
func TestCalmIsMadeOfMoves(t *testing.T) {
	for what, book := range stewardViews() {
		w := impl.StewWorld{Past: emptyBooks(0), Book: book}
		if !impl.StewWorldOk(w) {
			continue
		}
		for _, order := range [][]int{{1, 2, 3, 4, 5, 6}, {6, 5, 4, 3, 2, 1}, {3, 1, 5, 2, 6, 4}} {
			step := w
			for range 5 {
				step, _ = impl.StewDo(step, seaMove(tickOf()))
				for _, kind := range order {
					step, _ = impl.StewDo(step, stewardMove(kind, 0))
				}
			}
			if got := wantCalm(t, what, w, 5, order); !sameFleetWorld(got, step) {
				t.Errorf("%s: %s,\nnot %s", what, fleetWorldTold(got), fleetWorldTold(step))
			}
		}
	}
}

// fullWorld has eight services that have as many copies as they may, half of them of an old image; then nearly all of
// them fail at once.
func fullWorld(t *testing.T) impl.StewWorld {
	t.Helper()
	w := wantMove(t, "a berth", impl.StewWorld{}, seaMove(raiseOf("a", false)), 0)
	for image := range 2 {
		for _, name := range names(impl.StewMaxServices) {
			s := impl.StewService{Name: name, Image: 1 + image, Want: 10, Over: 10}
			w = wantMove(t, "a wish", w, seaMove(wishOf(s)), 0)
		}
		w = impl.StewCalm(w, 10, nil)
	}
	for _, c := range w.Book.Copies {
		if c.State != impl.StewWaiting {
			w, _ = impl.StewDo(w, seaMove(failOf(c.Service, c.Number)))
		}
	}
	return w
}

// Where all fail at once, those that end and those that take their places are more than a book has room for: what does
// not fit is not done (code 7), and asked for again behind the next tick.
func TestAFleetThatIsFull(t *testing.T) {
	w := fullWorld(t)
	if len(w.Book.Copies) != 160 {
		t.Fatal(fleetWorldTold(w))
	}
	w = wantMove(t, "a tick", w, seaMove(tickOf()), 0)
	w = wantMove(t, "the mender", w, stewardMove(impl.StewMender, 0), 0, 0, 0, 0, 0, 0, 0, 0)
	_, codes := impl.StewDo(w, stewardMove(impl.StewCounter, 0))
	if !slices.Contains(codes, 0) || !slices.Contains(codes, 7) {
		t.Errorf("the counter has the codes %v in %s", codes, fleetWorldTold(w))
	}
	w = wantMove(t, "the counter", w, stewardMove(impl.StewCounter, 0), codes...)
	for _, order := range [][]int{nil, {3, 1}, {6, 5, 4, 3, 2, 1}} {
		if got := impl.StewCalm(w, 300, order); !impl.StewDone(got.Book) || len(got.Book.Copies) != 80 {
			t.Errorf("%v: %s", order, fleetWorldTold(got))
		}
	}
}
