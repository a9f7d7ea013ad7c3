package tests

import (
	"slices"
	"strings"
	"testing"

	"loop.example/wharfhall/impl"
)

// What the dice name services and berths by: services and berths share some of the names.
var (
	diceServices = []string{"-", "a", "a-", "ab", "b", "north", "web", "web-2"}
	diceBerths   = []string{"0", "a", "b", "north", "south", "web"}
)

func someInOrder(d *dice, list []string) []string {
	return slices.DeleteFunc(slices.Clone(list), func(string) bool { return d.below(3) == 0 })
}

func diceService(d *dice, name string, now int) impl.StewService {
	s := impl.StewService{Name: name, Version: 1 + d.below(now), Gone: d.below(4) == 0, Image: 1 + d.below(3), Want: d.below(11), Next: 1 + d.below(12)}
	s.Down, s.Over = d.below(11), d.below(11)
	if s.Down+s.Over == 0 {
		s.Over = 1
	}
	if d.below(2) == 0 {
		s.Per, s.Load, s.Most, s.Cool = 1+d.below(1000000), d.below(1000001), d.below(11), d.below(4)
		s.Least = d.below(s.Most + 1)
	}
	return s
}

func diceCopy(d *dice, b impl.StewBook, s impl.StewService, number int) impl.StewCopy {
	c := impl.StewCopy{Service: s.Name, Number: number, Version: 1 + d.below(b.Now), Image: oneOf(d, s.Image, 1, 2), State: 1, Ending: d.below(3) == 0}
	if len(b.Berths) > 0 && d.below(4) > 0 {
		c.State, c.Berth = 2+d.below(3), oneOf(d, b.Berths...).Name
	}
	return c
}

// diceStewBook is a valid book.
func diceStewBook(d *dice) impl.StewBook {
	b := impl.StewBook{Now: oneOf(d, 1, 1+d.below(50), impl.StewMaxNumber)}
	for _, name := range someInOrder(d, diceBerths) {
		b.Berths = append(b.Berths, impl.StewBerth{Name: name, Drain: d.below(3) == 0})
	}
	for _, name := range someInOrder(d, diceServices) {
		s := diceService(d, name, b.Now)
		b.Services = append(b.Services, s)
		for number := 1; number < s.Next; number++ {
			if d.below(3) > 0 {
				b.Copies = append(b.Copies, diceCopy(d, b, s, number))
			}
		}
	}
	return b
}

func nameByHand(s string) bool {
	return s != "" && len(s) <= 20 && strings.Trim(s, "abcdefghijklmnopqrstuvwxyz0123456789-") == ""
}

func servicesByHand(b impl.StewBook) bool {
	ok := len(b.Services) <= 8
	for i, s := range b.Services {
		ok = ok && nameByHand(s.Name) && (i == 0 || b.Services[i-1].Name < s.Name)
		ok = ok && s.Version >= 1 && s.Version <= b.Now && s.Image >= 1 && s.Image <= 1000000 && s.Next >= 1 && s.Next <= 1000000
		ok = ok && s.Want >= 0 && s.Want <= 10 && s.Down >= 0 && s.Down <= 10 && s.Over >= 0 && s.Over <= 10 && !(s.Down == 0 && s.Over == 0)
		ok = ok && s.Per >= 0 && s.Per <= 1000000 && s.Load >= 0 && s.Load <= 1000000
		ok = ok && s.Least >= 0 && s.Least <= 10 && s.Most >= 0 && s.Most <= 10 && s.Least <= s.Most && s.Cool >= 0 && s.Cool <= 3
		if s.Per == 0 && (s.Least != 0 || s.Most != 0 || s.Load != 0 || s.Cool != 0) {
			ok = false
		}
	}
	return ok
}

func copiesByHand(b impl.StewBook) bool {
	ok := len(b.Copies) <= 200
	for i, c := range b.Copies {
		if i > 0 {
			ahead := b.Copies[i-1]
			ok = ok && (ahead.Service < c.Service || ahead.Service == c.Service && ahead.Number < c.Number)
		}
		served, stands := false, false
		for _, s := range b.Services {
			served = served || s.Name == c.Service && c.Number >= 1 && c.Number < s.Next
		}
		for _, berth := range b.Berths {
			stands = stands || berth.Name == c.Berth
		}
		ok = ok && served && c.Version >= 1 && c.Version <= b.Now && c.Image >= 1 && c.Image <= 1000000
		ok = ok && (c.State == 1 && c.Berth == "" || c.State >= 2 && c.State <= 4 && c.Berth != "" && stands)
	}
	return ok
}

// validByHand is what chapter 12 says of a book.
func validByHand(b impl.StewBook) bool {
	ok := b.Now >= 0 && b.Now <= 1000000 && len(b.Berths) <= 6
	for i, berth := range b.Berths {
		ok = ok && nameByHand(berth.Name) && (i == 0 || b.Berths[i-1].Name < berth.Name)
	}
	return ok && servicesByHand(b) && copiesByHand(b)
}

// countByHand is what chapter 13 says of a service that there is, in a valid book.
func countByHand(b impl.StewBook, s impl.StewService) impl.StewCount {
	number := func(of func(c impl.StewCopy) bool) int {
		n := 0
		for _, c := range b.Copies {
			if c.Service == s.Name && of(c) {
				n++
			}
		}
		return n
	}
	return impl.StewCount{
		Live:   number(func(c impl.StewCopy) bool { return !c.Ending }),
		Ready:  number(func(c impl.StewCopy) bool { return !c.Ending && c.State == 3 }),
		Old:    number(func(c impl.StewCopy) bool { return !c.Ending && c.Image != s.Image }),
		Failed: number(func(c impl.StewCopy) bool { return !c.Ending && c.State == 4 }),
		Ending: number(func(c impl.StewCopy) bool { return c.Ending }),
	}
}

// wantCounts asks for the counts of all services of a valid book, and of names that no service has.
func wantCounts(t *testing.T, what string, b impl.StewBook) {
	t.Helper()
	for _, name := range slices.Concat(diceServices, diceBerths, []string{"", "none"}) {
		want := impl.StewCount{}
		for _, s := range b.Services {
			if s.Name == name {
				want = countByHand(b, s)
			}
		}
		wantCount(t, what, b, name, want)
	}
}

func TestDrawnStewBooks(t *testing.T) {
	d := &dice{state: 1218}
	var sum impl.StewCount
	for range 1500 {
		b := diceStewBook(d)
		kept := stewCopyBook(b)
		if !validByHand(b) {
			t.Fatalf("%+v is not valid", b)
		}
		wantValid(t, "drawn", b, true)
		wantCounts(t, "drawn", b)
		for _, s := range b.Services {
			n := impl.StewCountOf(b, s.Name)
			sum.Live, sum.Ready, sum.Old, sum.Failed, sum.Ending = sum.Live+n.Live, sum.Ready+n.Ready, sum.Old+n.Old, sum.Failed+n.Failed, sum.Ending+n.Ending
		}
		if !sameStewBook(b, kept) {
			t.Fatalf("%+v was written into: it was %+v", b, kept)
		}
	}
	if sum.Ready < 1000 || sum.Old < 1000 || sum.Failed < 1000 || sum.Ending < 1000 || sum.Live < sum.Ready+sum.Failed {
		t.Errorf("the dice showed too little: %+v", sum)
	}
}

// stewNumbers are all numbers of a book.
func stewNumbers(b *impl.StewBook) []*int {
	out := []*int{&b.Now}
	for i := range b.Services {
		s := &b.Services[i]
		out = append(out, &s.Version, &s.Image, &s.Want, &s.Down, &s.Over, &s.Next, &s.Per, &s.Least, &s.Most, &s.Load, &s.Cool)
	}
	for i := range b.Copies {
		c := &b.Copies[i]
		out = append(out, &c.Number, &c.Version, &c.Image, &c.State)
	}
	return out
}

// stewTexts are all texts of a book.
func stewTexts(b *impl.StewBook) []*string {
	var out []*string
	for i := range b.Services {
		out = append(out, &b.Services[i].Name)
	}
	for i := range b.Copies {
		out = append(out, &b.Copies[i].Service, &b.Copies[i].Berth)
	}
	for i := range b.Berths {
		out = append(out, &b.Berths[i].Name)
	}
	return out
}

// turnStewBook turns one thing of a book: a number, a text, an order, or whether something is there.
func turnStewBook(d *dice, b *impl.StewBook) {
	switch d.below(6) {
	case 0:
		b.Services = turnedAround(d, b.Services)
	case 1:
		b.Copies = turnedAround(d, b.Copies)
	case 2:
		if texts := stewTexts(b); len(texts) > 0 {
			*oneOf(d, texts...) = oneOf(d, append([]string{"", "B", "none", long(20), long(21)}, slices.Concat(diceServices, diceBerths)...)...)
		}
	case 3:
		if len(b.Berths) > 0 {
			at := d.below(len(b.Berths))
			b.Berths = slices.Delete(b.Berths, at, at+1)
		}
	default:
		n := oneOf(d, stewNumbers(b)...)
		*n = oneOf(d, *n-1, *n+1, *n-2, *n+2, 0, -1, 1, 3, 4, 5, 10, 11, b.Now, b.Now+1, 1000000, 1000001)
	}
}

// A book of which something is turned is valid just where the document's words still hold of it; what is counted
// then, promise 18 rests on.
func TestDrawnStewBooksWithSomethingTurned(t *testing.T) {
	d := &dice{state: 1318}
	seen := map[bool]int{}
	for range 12000 {
		b := diceStewBook(d)
		for range 1 + d.below(2) {
			turnStewBook(d, &b)
		}
		want := validByHand(b)
		seen[want]++
		wantValid(t, "turned", b, want)
		if want {
			wantCounts(t, "turned", b)
		}
	}
	if seen[true] < 1000 || seen[false] < 1000 {
		t.Errorf("the dice showed too little: %v", seen)
	}
}
