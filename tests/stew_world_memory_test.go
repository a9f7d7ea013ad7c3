package tests

import (
	"maps"
	"runtime"
	"slices"
	"testing"

	"loop.example/wharfhall/impl"
)

// memoryWorlds are worlds with no, with some and with all Past books that there may be, and ones that are not ok.
func memoryWorlds() map[string]impl.StewWorld {
	out := map[string]impl.StewWorld{
		"nothing":      {},
		"aged":         agedWorld(3),
		"full of past": agedWorld(impl.StewMaxPast),
		"too old":      agedWorld(impl.StewMaxPast + 1),
		"eight":        eightWorld(1),
		"the last Now": {Past: []impl.StewBook{fleetBook(), busyFleet()}, Book: lastFleet(impl.StewMaxNumber)},
	}
	views := stewardViews()
	for _, what := range slices.Sorted(maps.Keys(views)) {
		out[what+", alone"] = impl.StewWorld{Book: views[what]}
		out[what+", twice"] = impl.StewWorld{Past: []impl.StewBook{views[what]}, Book: views[what]}
	}
	return out
}

func memoryMoves() []impl.StewMove {
	moves := []impl.StewMove{{}, stewardMove(7, 3), seaMove(raiseOf("a", true)), seaMove(sinkOf("none")), seaMove(wishOf(plainService("new")))}
	for steward := impl.StewCounter; steward <= impl.StewDrainer; steward++ {
		moves = append(moves, stewardMove(steward, 0), stewardMove(steward, 1), stewardMove(steward, 99))
	}
	for _, e := range fleetEvents() {
		moves = append(moves, seaMove(e))
	}
	return moves
}

func TestNoFleetWorldIsWrittenInto(t *testing.T) {
	for what, world := range memoryWorlds() {
		w := withRoom(world)
		before := opened(w)
		impl.StewWorldOk(w)
		for _, m := range memoryMoves() {
			got, codes := impl.StewDo(w, m)
			wantUntouched(t, what, w, before)
			wantApart(t, what, struct {
				World impl.StewWorld
				Codes []int
			}{got, codes}, w)
			if want, plain := impl.StewDo(world, m); !slices.Equal(codes, plain) || !sameFleetWorld(got, want) {
				t.Errorf("%s: with room behind the lists %s gives %s, %v", what, moveTold(m), fleetWorldTold(got), codes)
			}
		}
	}
}

func TestNoCalmWorldIsWrittenInto(t *testing.T) {
	for what, world := range memoryWorlds() {
		for _, rounds := range []int{-1, 0, 1, 2, 12} {
			w, order := withRoom(world), withRoom([]int{6, 3, 9, 3, 1})
			before, orderBefore := opened(w), opened(order)
			got := impl.StewCalm(w, rounds, order)
			wantUntouched(t, what, w, before)
			wantUntouched(t, what, order, orderBefore)
			wantApart(t, what, got, w, order)
			if want := impl.StewCalm(world, rounds, []int{6, 3, 1}); !sameFleetWorld(got, want) {
				t.Errorf("%s: with room behind the lists %d rounds give %s", what, rounds, fleetWorldTold(got))
			}
		}
	}
}

// A world may have one book for all; an answer has each on its own.
func TestBooksOfAFleetWorldShareNoMemory(t *testing.T) {
	b := busyFleet()
	w := impl.StewWorld{Past: slices.Repeat([]impl.StewBook{b}, impl.StewMaxPast), Book: b}
	for _, m := range memoryMoves() {
		got, _ := impl.StewDo(w, m)
		if len(got.Past) != impl.StewMaxPast {
			t.Errorf("%s: %s", moveTold(m), fleetWorldTold(got))
		}
		wantApart(t, moveTold(m), got, w, m)
	}
	for rounds := range 5 {
		wantApart(t, "calm", impl.StewCalm(w, rounds, nil), w)
	}
}

func spoilFleetWorld(w impl.StewWorld) {
	for _, b := range append(slices.Clone(w.Past), w.Book) {
		for i := range b.Services {
			b.Services[i] = impl.StewService{Name: "spoiled"}
		}
		for i := range b.Copies {
			b.Copies[i] = impl.StewCopy{Service: "spoiled"}
		}
		for i := range b.Berths {
			b.Berths[i].Name = "spoiled"
		}
	}
	clear(w.Past)
}

// The same call gives the same answer again, whatever was asked between, and though the answer is spoiled.
func TestFleetWorldsKeepNothing(t *testing.T) {
	for what, w := range memoryWorlds() {
		for _, m := range memoryMoves() {
			first, codes := impl.StewDo(w, m)
			kept := copyFleetWorld(first)
			impl.StewDo(first, seaMove(tickOf()))
			impl.StewCalm(agedWorld(8), 2, []int{5})
			spoilFleetWorld(first)
			if again, same := impl.StewDo(w, m); !slices.Equal(same, codes) || !sameFleetWorld(again, kept) {
				t.Errorf("%s: %s gives %s, then %s", what, moveTold(m), fleetWorldTold(kept), fleetWorldTold(again))
			}
		}
		first := impl.StewCalm(w, 3, nil)
		kept := copyFleetWorld(first)
		spoilFleetWorld(first)
		if again := impl.StewCalm(w, 3, nil); !sameFleetWorld(again, kept) {
			t.Errorf("%s: calm gives %s, then %s", what, fleetWorldTold(kept), fleetWorldTold(again))
		}
	}
}

// What is answered does not hang on how many stewards can look at one time.
func TestStewardsWhoLookAtOnce(t *testing.T) {
	defer runtime.GOMAXPROCS(runtime.GOMAXPROCS(0))
	for what, w := range memoryWorlds() {
		runtime.GOMAXPROCS(1)
		alone := impl.StewCalm(w, 6, []int{3, 5})
		runtime.GOMAXPROCS(8)
		for range 5 {
			if got := impl.StewCalm(w, 6, []int{3, 5}); !sameFleetWorld(got, alone) {
				t.Errorf("%s: %s, and one by one %s", what, fleetWorldTold(got), fleetWorldTold(alone))
			}
		}
	}
}

// No steward goes on looking behind an answer.
func TestStewardsWhoHaveLooked(t *testing.T) {
	before := runtime.NumGoroutine()
	w := impl.StewWorld{Book: busyFleet()}
	for range 50 {
		impl.StewCalm(w, 5, nil)
		impl.StewDo(w, stewardMove(impl.StewMender, 0))
	}
	wantNobodyLeft(t, before)
}
