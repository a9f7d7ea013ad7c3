package tests

import (
	"fmt"
	"slices"
	"testing"

	"loop.example/wharfhall/impl"
)

// The places of what calmBook has: the services, and the first copies of these.
const (
	calmApi      = 0
	calmVoid     = 1
	calmWeb      = 2
	calmApiFirst = 0
	calmWebFirst = 2
)

// calmBook is a book that is done: api follows no load, of void nothing is wanted, web has what its load asks for.
// Every call gives new memory.
func calmBook() impl.StewBook {
	return impl.StewBook{Now: 90,
		Services: []impl.StewService{
			{Name: "api", Version: 50, Image: 4, Want: 2, Down: 1, Next: 9},
			{Name: "void", Version: 51, Image: 1, Over: 1, Next: 5},
			{Name: "web", Version: 52, Image: 2, Want: 3, Down: 1, Over: 1, Next: 7, Per: 10, Least: 1, Most: 5, Load: 21},
		},
		Copies: []impl.StewCopy{
			{Service: "api", Number: 2, Version: 20, Image: 4, State: impl.StewReady, Berth: "a"},
			{Service: "api", Number: 5, Version: 21, Image: 4, State: impl.StewReady, Berth: "c"},
			{Service: "web", Number: 3, Version: 22, Image: 2, State: impl.StewReady, Berth: "a"},
			{Service: "web", Number: 4, Version: 23, Image: 2, State: impl.StewReady, Berth: "c"},
			{Service: "web", Number: 6, Version: 24, Image: 2, State: impl.StewReady, Berth: "a"},
		},
		Berths: []impl.StewBerth{{Name: "a"}, {Name: "b", Drain: true}, {Name: "c"}},
	}
}

func turnedCalm(turn func(b *impl.StewBook)) impl.StewBook {
	b := calmBook()
	turn(&b)
	return b
}

func doneServiceByHand(b impl.StewBook, s impl.StewService) bool {
	live := 0
	for _, c := range b.Copies {
		if c.Service != s.Name {
			continue
		}
		if c.Ending || c.Image != s.Image || c.State != 3 || onDrainByHand(b, s, c) {
			return false
		}
		live++
	}
	return !s.Gone && live == s.Want && (s.Per == 0 || s.Want == dueByHand(s) && s.Cool == 0)
}

// doneByHand is what chapter 18 says of StewDone.
func doneByHand(b impl.StewBook) bool {
	done := validByHand(b)
	for _, s := range b.Services {
		done = done && doneServiceByHand(b, s)
	}
	return done
}

// rankByHand is what chapter 18 says of StewRank.
func rankByHand(b impl.StewBook) []int {
	rank := make([]int, 5)
	if !validByHand(b) {
		return rank
	}
	for _, s := range b.Services {
		live := countByHand(b, s).Live
		switch {
		case s.Gone:
			rank[0]++
		case live < s.Want:
			rank[2] += s.Want - live
		default:
			rank[2] += live - s.Want
		}
	}
	for _, c := range b.Copies {
		s := b.Services[stewPlaceByHand(b, c.Service)]
		if c.Ending || s.Gone {
			rank[1]++
		}
		if !c.Ending && (oldByHand(b, s, c) || onDrainByHand(b, s, c)) {
			rank[3]++
		}
		if !c.Ending && c.State != 3 {
			rank[4]++
		}
	}
	return rank
}

// wantStewDone asks whether a book is done, and for its rank; and for promises 18 and 19.
func wantStewDone(t *testing.T, what string, b impl.StewBook, done bool, rank string) {
	t.Helper()
	if worded := doneByHand(b); worded != done {
		t.Fatalf("%s: by the document's words %s is done: %v", what, stewTold(b), worded)
	}
	if worded := fmt.Sprint(rankByHand(b)); worded != rank {
		t.Fatalf("%s: by the document's words %s has the rank %s, not %s", what, stewTold(b), worded, rank)
	}
	if got := impl.StewDone(b); got != done {
		t.Errorf("%s: StewDone of %s = %v", what, stewTold(b), got)
	}
	if got := fmt.Sprint(impl.StewRank(b)); got != rank {
		t.Errorf("%s: StewRank of %s = %s, not %s", what, stewTold(b), got, rank)
	}
	wantDoneByRank(t, what, b)
	wantDoneAtRest(t, what, b)
}

// wantDoneByRank is what promise 18 says.
func wantDoneByRank(t *testing.T, what string, b impl.StewBook) {
	t.Helper()
	done := impl.StewValid(b) && slices.Equal(impl.StewRank(b), make([]int, 5))
	for _, c := range b.Copies {
		done = done && !c.Ending
	}
	for _, s := range b.Services {
		done = done && (s.Per == 0 || s.Want == dueByHand(s) && s.Cool == 0)
	}
	if impl.StewDone(b) != done {
		t.Errorf("%s: of %s the rank is %v, and it is done: %v", what, stewTold(b), impl.StewRank(b), impl.StewDone(b))
	}
}

// wantDoneAtRest is what promise 19 says.
func wantDoneAtRest(t *testing.T, what string, b impl.StewBook) {
	t.Helper()
	if !impl.StewDone(b) {
		return
	}
	for kind := impl.StewCounter; kind <= impl.StewDrainer; kind++ {
		if acts := impl.StewAsk(kind, b); len(acts) > 0 {
			t.Errorf("%s: %d asks for %s in %s, which is done", what, kind, asksTold(acts), stewTold(b))
		}
	}
	if b.Now == impl.StewMaxNumber {
		return
	}
	got, code := impl.StewSea(b, tickOf())
	b.Now++
	if code != 0 || !sameStewBook(got, b) || !impl.StewDone(got) {
		t.Errorf("%s: a tick made %s of %s, which is done: code %d", what, stewTold(got), stewTold(b), code)
	}
}
