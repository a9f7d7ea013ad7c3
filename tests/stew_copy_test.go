package tests

import (
	"math"
	"testing"

	"loop.example/wharfhall/impl"
)

// wantCopyNumbers tries numbers in the copy of db, which stands between those of api and of web.
func wantCopyNumbers(t *testing.T, what string, set func(c *impl.StewCopy, n int), good, bad []int) {
	t.Helper()
	for _, n := range good {
		wantValid(t, what+" "+count(n), turnedPort(func(b *impl.StewBook) { set(&b.Copies[3], n) }), true)
	}
	for _, n := range append([]int{math.MinInt, math.MaxInt}, bad...) {
		wantValid(t, what+" "+count(n), turnedPort(func(b *impl.StewBook) { set(&b.Copies[3], n) }), false)
	}
}

func TestNumbersOfCopies(t *testing.T) {
	many := impl.StewMaxNumber
	// Of db Next is 4.
	wantCopyNumbers(t, "Number", func(c *impl.StewCopy, n int) { c.Number = n }, []int{1, 2, 3}, []int{-1, 0, 4, 5, 20})
	wantCopyNumbers(t, "Version", func(c *impl.StewCopy, n int) { c.Version = n }, []int{1, 2, 39, 40}, []int{-1, 0, 41, many})
	wantCopyNumbers(t, "Image", func(c *impl.StewCopy, n int) { c.Image = n }, []int{1, 2, 41, many - 1, many}, []int{-1, 0, many + 1})
	wantCopyNumbers(t, "State", func(c *impl.StewCopy, n int) { c.State = n }, []int{2, 3, 4}, []int{-1, 0, 1, 5, 6})
	wantCopyNumbers(t, "State without a berth", func(c *impl.StewCopy, n int) { c.State, c.Berth = n, "" }, []int{1}, []int{-1, 0, 2, 3, 4, 5, 6})
}

// A Number goes up to one less than the Next of its own service, up to the greatest.
func TestANumberIsBelowItsNext(t *testing.T) {
	for _, c := range []struct {
		next, number int
		ok           bool
	}{
		{1, 0, false}, {1, 1, false}, {2, 1, true}, {2, 2, false}, {3, 2, true}, {3, 3, false},
		{impl.StewMaxNumber, impl.StewMaxNumber - 1, true}, {impl.StewMaxNumber, impl.StewMaxNumber, false},
		{impl.StewMaxNumber + 1, impl.StewMaxNumber, false}, {math.MinInt, 1, false}, {math.MaxInt, 1, false},
	} {
		b := stewServices("a", "web", "z")
		b.Services[0].Next, b.Services[1].Next, b.Services[2].Next = 500, c.next, 1
		b.Copies = []impl.StewCopy{waitingCopy("web", c.number)}
		wantValid(t, "Number "+count(c.number)+" of Next "+count(c.next), b, c.ok)
	}
}

func TestCopiesAreOfTheirServices(t *testing.T) {
	for _, name := range []string{"", "ap", "api-", "dbx", "wea", "north", "quay", "API", "é", "zz"} {
		b := stewServices("api", "db", "web")
		b.Berths = portBook().Berths[1:]
		b.Services[0].Next, b.Services[1].Next, b.Services[2].Next = 9, 9, 9
		b.Copies = []impl.StewCopy{waitingCopy(name, 1)}
		wantValid(t, "a copy of "+name, b, false)
		for _, s := range b.Services {
			b.Copies[0].Service = s.Name
			wantValid(t, "a copy of "+s.Name, b, true)
		}
	}
	wantValid(t, "a copy, and no service", impl.StewBook{Now: 1, Copies: []impl.StewCopy{waitingCopy("web", 1)}}, false)
	for _, gone := range []bool{true, false} {
		for i := range portBook().Services {
			b := turnedPort(func(b *impl.StewBook) { b.Services[i].Gone = gone })
			wantValid(t, "copies of a service that is Gone", b, true)
		}
	}
}

func TestCopiesStandOnTheirBerths(t *testing.T) {
	for state := -1; state <= 6; state++ {
		for _, ending := range []bool{true, false} {
			for _, berth := range []string{"", "api", "north", "quay", "nort", "north-", "db", "web", "North", "é"} {
				there := berth == "api" || berth == "north" || berth == "quay"
				want := state == 1 && berth == "" || 2 <= state && state <= 4 && there
				for i := range portBook().Copies {
					b := turnedPort(func(b *impl.StewBook) {
						b.Copies[i].State, b.Copies[i].Ending, b.Copies[i].Berth = state, ending, berth
					})
					wantValid(t, "State "+count(state)+" on "+berth, b, want)
				}
			}
		}
	}
	wantValid(t, "no berth at all", turnedPort(func(b *impl.StewBook) { b.Berths = nil }), false)
	waiting := manyCopies(3)
	wantValid(t, "no berth, all waiting", waiting, true)
	waiting.Copies[1].State = impl.StewReady
	wantValid(t, "no berth, one ready", waiting, false)
	// A berth with the empty name is none, so that nobody stands on it.
	waiting.Berths = []impl.StewBerth{{}}
	wantValid(t, "a berth without a name", waiting, false)
}

func TestCopiesAscend(t *testing.T) {
	type of struct {
		service string
		number  int
	}
	for _, c := range []struct {
		copies []of
		ok     bool
	}{
		{[]of{{"a", 1}, {"a", 2}}, true},
		{[]of{{"a", 2}, {"a", 1}}, false},
		{[]of{{"a", 1}, {"a", 1}}, false},
		{[]of{{"a", 9}, {"a", 10}}, true},
		{[]of{{"a", 10}, {"a", 9}}, false},
		{[]of{{"a", 9}, {"b", 1}}, true},
		{[]of{{"a", 1}, {"b", 1}}, true},
		{[]of{{"b", 1}, {"a", 9}}, false},
		{[]of{{"b", 1}, {"a", 1}}, false},
		{[]of{{"a", 1}, {"a-", 1}, {"b", 1}}, true},
		{[]of{{"a-", 1}, {"a", 2}}, false},
		{[]of{{"a", 1}, {"b", 1}, {"a", 2}}, false},
		{[]of{{"a", 1}, {"a", 2}, {"b", 7}, {"b", 8}, {"b", 8}}, false},
		{[]of{{"a", 1}, {"a", 2}, {"b", 7}, {"b", 8}, {"b", 9}}, true},
	} {
		b := stewServices("a", "a-", "b")
		for i := range b.Services {
			b.Services[i].Next = 20
		}
		for _, x := range c.copies {
			b.Copies = append(b.Copies, waitingCopy(x.service, x.number))
		}
		wantValid(t, "copies", b, c.ok)
	}
}

// Two copies of one service and Number are two of one name, whatever else of them differs.
func TestCopiesOfOneNumber(t *testing.T) {
	b := portBook()
	other := b.Copies[0]
	other.Version, other.Image, other.State, other.Ending, other.Berth = 3, 7, impl.StewFailed, true, "quay"
	b.Copies = append([]impl.StewCopy{b.Copies[0], other}, b.Copies[1:]...)
	wantValid(t, "one Number twice", b, false)
	b.Copies[1].Number++
	wantValid(t, "two Numbers", b, true)
}
