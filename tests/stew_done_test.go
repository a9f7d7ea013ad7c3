package tests

import (
	"testing"

	"loop.example/wharfhall/impl"
)

// doneCase is the calm book in which something is turned.
type doneCase struct {
	what string
	turn func(b *impl.StewBook)
	rank string
}

const noRank = "[0 0 0 0 0]"

func wantAllUndone(t *testing.T, cases []doneCase) {
	t.Helper()
	for _, c := range cases {
		b := turnedCalm(c.turn)
		wantValid(t, c.what, b, true)
		wantStewDone(t, c.what, b, false, c.rank)
	}
}

func TestBooksThatAreDone(t *testing.T) {
	wantStewDone(t, "calm", calmBook(), true, noRank)
	wantStewDone(t, "nothing", impl.StewBook{}, true, noRank)
	wantStewDone(t, "nothing, and much later", impl.StewBook{Now: impl.StewMaxNumber}, true, noRank)
	wantStewDone(t, "berths alone", stewBerths("a", "b"), true, noRank)
	wantStewDone(t, "services of which nothing is wanted", stewServices(names(impl.StewMaxServices)...), true, noRank)
	for what, turn := range map[string]func(b *impl.StewBook){
		"no berth to be drained": func(b *impl.StewBook) { b.Berths[1].Drain = false },
		"an empty one more":      func(b *impl.StewBook) { b.Berths = append(b.Berths, impl.StewBerth{Name: "d", Drain: true}) },
		"the last version":       func(b *impl.StewBook) { b.Now = impl.StewMaxNumber },
		"the most load":          func(b *impl.StewBook) { b.Services[calmWeb].Load = 30 },
		"the least of Most":      func(b *impl.StewBook) { b.Services[calmWeb].Most, b.Services[calmWeb].Load = 3, 1000 },
		"the most of Least":      func(b *impl.StewBook) { b.Services[calmWeb].Least, b.Services[calmWeb].Load = 3, 0 },
		"Down and Over":          func(b *impl.StewBook) { b.Services[calmWeb].Down, b.Services[calmWeb].Over = 10, 10 },
	} {
		b := turnedCalm(turn)
		wantValid(t, what, b, true)
		wantStewDone(t, what, b, true, noRank)
	}
}

func TestBooksThatAreNotDoneAsTheyAreNotValid(t *testing.T) {
	for what, b := range wrongStewBooks() {
		wantStewDone(t, what, b, false, noRank)
	}
	wantStewDone(t, "calm but for a version", turnedCalm(func(b *impl.StewBook) { b.Now = 51 }), false, noRank)
	wantStewDone(t, "calm but for a berth", turnedCalm(func(b *impl.StewBook) { b.Berths[1].Name = "B" }), false, noRank)
}

func TestServicesThatAreGone(t *testing.T) {
	wantAllUndone(t, []doneCase{
		{"without copies", func(b *impl.StewBook) { b.Services[calmVoid].Gone = true }, "[1 0 0 0 0]"},
		{"without copies, though some were wanted", func(b *impl.StewBook) { b.Services[calmVoid].Gone, b.Services[calmVoid].Want = true, 7 }, "[1 0 0 0 0]"},
		{"with as many as wanted", func(b *impl.StewBook) { b.Services[calmWeb].Gone = true }, "[1 3 0 0 0]"},
		{"with more than wanted", func(b *impl.StewBook) { b.Services[calmApi].Gone, b.Services[calmApi].Want = true, 1 }, "[1 2 0 0 0]"},
		{"with ending ones", func(b *impl.StewBook) { b.Services[calmWeb].Gone, b.Copies[calmWebFirst].Ending = true, true }, "[1 3 0 0 0]"},
		{"with ending ones alone", func(b *impl.StewBook) {
			b.Services[calmApi].Gone, b.Copies[calmApiFirst].Ending, b.Copies[calmApiFirst+1].Ending = true, true, true
		}, "[1 2 0 0 0]"},
		{"all of them", func(b *impl.StewBook) {
			for i := range b.Services {
				b.Services[i].Gone = true
			}
		}, "[3 5 0 0 0]"},
	})
}

func TestMoreOrFewerThanWanted(t *testing.T) {
	wantAllUndone(t, []doneCase{
		{"one missing", func(b *impl.StewBook) { b.Services[calmApi].Want = 3 }, "[0 0 1 0 0]"},
		{"one too many", func(b *impl.StewBook) { b.Services[calmApi].Want = 1 }, "[0 0 1 0 0]"},
		{"none wanted", func(b *impl.StewBook) { b.Services[calmApi].Want = 0 }, "[0 0 2 0 0]"},
		{"none there", func(b *impl.StewBook) { b.Services[calmVoid].Want = 10 }, "[0 0 10 0 0]"},
		{"one missing, one too many", func(b *impl.StewBook) { b.Services[calmApi].Want, b.Services[calmVoid].Want = 1, 1 }, "[0 0 2 0 0]"},
		{"a copy went", func(b *impl.StewBook) { b.Copies = b.Copies[1:] }, "[0 0 1 0 0]"},
		{"all went", func(b *impl.StewBook) { b.Copies = nil }, "[0 0 5 0 0]"},
	})
}

func TestCopiesThatAreNotAsWanted(t *testing.T) {
	wantAllUndone(t, []doneCase{
		{"older", func(b *impl.StewBook) { b.Copies[calmApiFirst].Image = 3 }, "[0 0 0 1 0]"},
		{"newer", func(b *impl.StewBook) { b.Copies[calmApiFirst].Image = 5 }, "[0 0 0 1 0]"},
		{"all old", func(b *impl.StewBook) { b.Services[calmWeb].Image = 3 }, "[0 0 0 3 0]"},
		{"to be drained", func(b *impl.StewBook) { b.Copies[calmWebFirst].Berth = "b" }, "[0 0 0 1 0]"},
		{"a berth to be drained", func(b *impl.StewBook) { b.Berths[0].Drain = true }, "[0 0 0 3 0]"},
		{"old and to be drained", func(b *impl.StewBook) { b.Copies[calmWebFirst].Berth, b.Copies[calmWebFirst].Image = "b", 1 }, "[0 0 0 1 0]"},
		{"one old, one to be drained", func(b *impl.StewBook) { b.Copies[calmWebFirst].Berth, b.Copies[calmApiFirst].Image = "b", 1 }, "[0 0 0 2 0]"},
		{"starting", func(b *impl.StewBook) { b.Copies[calmWebFirst].State = impl.StewStarting }, "[0 0 0 0 1]"},
		{"failed", func(b *impl.StewBook) { b.Copies[calmWebFirst].State = impl.StewFailed }, "[0 0 0 0 1]"},
		{"waiting", func(b *impl.StewBook) {
			b.Copies[calmWebFirst].State, b.Copies[calmWebFirst].Berth = impl.StewWaiting, ""
		}, "[0 0 0 0 1]"},
		{"old and failed", func(b *impl.StewBook) {
			b.Copies[calmWebFirst].State, b.Copies[calmWebFirst].Image = impl.StewFailed, 1
		}, "[0 0 0 1 1]"},
	})
}

func TestCopiesThatEnd(t *testing.T) {
	spare := func(state int, image int, berth string) func(b *impl.StewBook) {
		return func(b *impl.StewBook) {
			b.Copies = append(b.Copies, impl.StewCopy{Service: "web", Number: 7, Version: 25, Image: image, State: state, Ending: true, Berth: berth})
			b.Services[calmWeb].Next = 8
		}
	}
	wantAllUndone(t, []doneCase{
		{"beside all that are wanted", spare(impl.StewReady, 2, "a"), "[0 1 0 0 0]"},
		{"and waiting", spare(impl.StewWaiting, 2, ""), "[0 1 0 0 0]"},
		{"and starting", spare(impl.StewStarting, 2, "a"), "[0 1 0 0 0]"},
		{"and failed", spare(impl.StewFailed, 2, "a"), "[0 1 0 0 0]"},
		{"and old", spare(impl.StewReady, 1, "a"), "[0 1 0 0 0]"},
		{"and to be drained", spare(impl.StewReady, 2, "b"), "[0 1 0 0 0]"},
		{"one that is wanted", func(b *impl.StewBook) { b.Copies[calmWebFirst].Ending = true }, "[0 1 1 0 0]"},
		{"of two services", func(b *impl.StewBook) { b.Copies[calmWebFirst].Ending, b.Copies[calmApiFirst].Ending = true, true }, "[0 2 2 0 0]"},
	})
}

// That a Want does not follow its load, or has not rested, no rank tells.
func TestServicesThatFollowTheirLoad(t *testing.T) {
	wantAllUndone(t, []doneCase{
		{"more load", func(b *impl.StewBook) { b.Services[calmWeb].Load = 31 }, noRank},
		{"less load", func(b *impl.StewBook) { b.Services[calmWeb].Load = 20 }, noRank},
		{"no load", func(b *impl.StewBook) { b.Services[calmWeb].Load = 0 }, noRank},
		{"a greater Per", func(b *impl.StewBook) { b.Services[calmWeb].Per = 11 }, noRank},
		{"a smaller Per", func(b *impl.StewBook) { b.Services[calmWeb].Per = 6 }, noRank},
		{"Most below Want", func(b *impl.StewBook) { b.Services[calmWeb].Most = 2 }, noRank},
		{"Least above Want", func(b *impl.StewBook) { b.Services[calmWeb].Least = 4 }, noRank},
		{"one tick less was asked for", func(b *impl.StewBook) { b.Services[calmWeb].Cool = 1 }, noRank},
		{"and as long as may be", func(b *impl.StewBook) { b.Services[calmWeb].Cool = impl.StewCool }, noRank},
		{"with none of it wanted", func(b *impl.StewBook) {
			b.Services[calmVoid].Per, b.Services[calmVoid].Most, b.Services[calmVoid].Load = 1, 1, 1
		}, noRank},
	})
	follows := turnedCalm(func(b *impl.StewBook) { b.Services[calmVoid].Per = 5 })
	wantStewDone(t, "none wanted by its load", follows, true, noRank)
}

// Of a service that is Gone the Live copies are counted as others are, where they are old or not ready.
func TestLiveCopiesOfWhatIsGone(t *testing.T) {
	wantAllUndone(t, []doneCase{
		{"old", func(b *impl.StewBook) { b.Services[calmApi].Gone, b.Copies[calmApiFirst].Image = true, 1 }, "[1 2 0 1 0]"},
		{"to be drained", func(b *impl.StewBook) { b.Services[calmApi].Gone, b.Copies[calmApiFirst].Berth = true, "b" }, "[1 2 0 1 0]"},
		{"failed", func(b *impl.StewBook) { b.Services[calmApi].Gone, b.Copies[calmApiFirst].State = true, impl.StewFailed }, "[1 2 0 0 1]"},
	})
}

func TestAllThatIsLeftToDoAtOnce(t *testing.T) {
	wantStewDone(t, "the fleet", fleetBook(), false, "[2 4 3 4 3]")
	wantStewDone(t, "the port", portBook(), false, "[1 2 7 2 2]")
}

func TestRanksAreNewMemory(t *testing.T) {
	for what, book := range stewardViews() {
		b := withRoom(book)
		before := opened(b)
		rank, done := impl.StewRank(b), impl.StewDone(b)
		wantUntouched(t, what, b, before)
		kept := append([]int{}, rank...)
		for i := range rank {
			rank[i] = -1
		}
		again := impl.StewRank(book)
		if len(again) != 5 || done != impl.StewDone(book) {
			t.Errorf("%s: %v, %v", what, again, done)
		}
		for i := range again {
			if again[i] != kept[i] {
				t.Errorf("%s: %v, then %v", what, kept, again)
			}
		}
	}
}
