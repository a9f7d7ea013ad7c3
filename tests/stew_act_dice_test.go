package tests

import (
	"slices"
	"testing"

	"loop.example/wharfhall/impl"
)

// diceFleet is a valid book with few services, and so with more to be done for each; seldom it is near an end.
func diceFleet(d *dice) impl.StewBook {
	b := diceStewBook(d)
	for len(b.Services) == 0 || len(b.Berths) == 0 {
		b = diceStewBook(d)
	}
	if b.Now == impl.StewMaxNumber && d.below(6) > 0 {
		b.Now -= 200
		for i := range b.Services {
			b.Services[i].Version = min(b.Services[i].Version, b.Now)
		}
		for i := range b.Copies {
			b.Copies[i].Version = min(b.Copies[i].Version, b.Now)
		}
	}
	for i := range b.Services {
		s := &b.Services[i]
		if d.below(3) > 0 {
			s.Want, s.Down, s.Over = d.below(6), d.below(3), 1+d.below(4)
		}
		if d.below(20) == 0 {
			s.Next = impl.StewMaxNumber - d.below(4)
		}
		if d.below(3) == 0 {
			b.Copies = slices.DeleteFunc(b.Copies, func(c impl.StewCopy) bool { return c.Service == s.Name && d.below(3) > 0 })
		}
	}
	return b
}

// diceEnds are some of a service's copies as a book has them, seldom one that is Ending already.
func diceEnds(d *dice, b impl.StewBook, service string) []impl.StewEnd {
	var ends []impl.StewEnd
	often := 2 + d.below(4)
	for _, c := range b.Copies {
		if c.Service == service && d.below(often) == 0 && (!c.Ending || d.below(10) == 0) {
			ends = append(ends, impl.StewEnd{Number: c.Number, Seen: c.Version})
		}
	}
	return ends
}

// diceAct is a sound act for one of the services of a book, as they are there.
func diceAct(d *dice, b impl.StewBook) impl.StewAct {
	if len(b.Services) == 0 {
		return impl.StewAct{Service: "none"}
	}
	s := oneOf(d, b.Services...)
	a := impl.StewAct{Service: s.Name, Seen: s.Version}
	if d.below(8) == 0 {
		a.Drop = true
		return a
	}
	if d.below(2) == 0 {
		a.Create = d.below(5)
	}
	if d.below(2) == 0 {
		a.Ends = diceEnds(d, b, s.Name)
	}
	if d.below(3) == 0 {
		a.Scale, a.Want, a.Cool = true, min(s.Least+d.below(3), impl.StewMaxWant), d.below(4)
	}
	return a
}

// turnAct turns one thing of an act.
func turnAct(d *dice, a *impl.StewAct) {
	switch d.below(8) {
	case 0:
		a.Service = oneOf(d, append([]string{"", "none"}, diceServices...)...)
	case 1:
		a.Seen += oneOf(d, -1, 1)
	case 2:
		a.Create = oneOf(d, -1, a.Create+1, 20, 21)
	case 3:
		a.Want = oneOf(d, -1, a.Want+1, 10, 11)
	case 4:
		a.Cool = oneOf(d, -1, a.Cool+1, 3, 4)
	case 5:
		a.Scale = !a.Scale
	case 6:
		a.Drop = !a.Drop
	default:
		a.Ends = append(turnedAround(d, a.Ends), impl.StewEnd{Number: d.below(14), Seen: 1 + d.below(50)})
	}
}

// wantNoHarm is what promise 16 says.
func wantNoHarm(t *testing.T, b, got impl.StewBook, a impl.StewAct) {
	t.Helper()
	if a.Drop {
		return
	}
	s := got.Services[stewPlaceByHand(got, a.Service)]
	n := impl.StewCountOf(got, a.Service)
	ended := slices.ContainsFunc(a.Ends, func(e impl.StewEnd) bool {
		return b.Copies[copyPlaceByHand(b, a.Service, e.Number)].State == impl.StewReady
	})
	if ended && !s.Gone && !a.Scale && n.Ready < s.Want-s.Down {
		t.Errorf("%s harmed %s", actTold(a), stewTold(b))
	}
	if a.Create > 0 && n.Live > s.Want+s.Over {
		t.Errorf("%s created too many in %s", actTold(a), stewTold(b))
	}
}

// wantTouchedAlone is what promise 17 says of an act that was done: nothing but its service and what ends has changed,
// and what is new is new.
func wantTouchedAlone(t *testing.T, b, got impl.StewBook, a impl.StewAct) {
	t.Helper()
	others := func(book impl.StewBook) impl.StewBook {
		book = stewCopyBook(book)
		book.Now = 0
		book.Services = slices.DeleteFunc(book.Services, func(s impl.StewService) bool { return s.Name == a.Service })
		next := b.Services[stewPlaceByHand(b, a.Service)].Next
		book.Copies = slices.DeleteFunc(book.Copies, func(c impl.StewCopy) bool {
			ends := slices.ContainsFunc(a.Ends, func(e impl.StewEnd) bool { return e.Number == c.Number })
			return c.Service == a.Service && (ends || c.Number >= next)
		})
		return book
	}
	if !sameStewBook(others(b), others(got)) {
		t.Errorf("%s of %s touched more: %s", actTold(a), stewTold(b), stewTold(got))
	}
}

// wantDrawnAct applies an act to a book as the document's words do, and gives the code.
func wantDrawnAct(t *testing.T, b impl.StewBook, a impl.StewAct) (impl.StewBook, int) {
	t.Helper()
	kept, keptEnds := stewCopyBook(b), slices.Clone(a.Ends)
	_, code := applyByHand(b, a)
	got := wantApplied(t, "drawn", b, a, code)
	if code == 0 {
		wantNoHarm(t, b, got, a)
		wantTouchedAlone(t, b, got, a)
	}
	if !sameStewBook(b, kept) || !slices.Equal(a.Ends, keptEnds) {
		t.Fatalf("an argument was written into: %s, %s", stewTold(b), actTold(a))
	}
	return got, code
}

func TestDrawnActs(t *testing.T) {
	d := &dice{state: 1516}
	seen := map[int]int{}
	for range 5000 {
		b := diceFleet(d)
		for range 4 {
			a := diceAct(d, b)
			for range d.below(3) {
				turnAct(d, &a)
			}
			_, code := wantDrawnAct(t, b, a)
			seen[code]++
		}
		if d.below(10) == 0 {
			turnStewBook(d, &b)
			_, code := wantDrawnAct(t, b, diceAct(d, b))
			seen[code]++
		}
	}
	for code := range 8 {
		if seen[code] < 100 {
			t.Errorf("the dice showed too little: %v", seen)
		}
	}
}

// drift is what happens to a fleet without its stewards: a copy is in another State, or its service wants another thing.
func drift(d *dice, b impl.StewBook) impl.StewBook {
	b = stewCopyBook(b)
	b.Now++
	if len(b.Copies) > 0 && d.below(4) > 0 {
		c := &b.Copies[d.below(len(b.Copies))]
		c.Version, c.State, c.Berth = b.Now, oneOf(d, 2, 3, 3, 4), oneOf(d, b.Berths...).Name
		return b
	}
	if len(b.Services) > 0 {
		s := &b.Services[d.below(len(b.Services))]
		s.Version, s.Want, s.Image = b.Now, d.below(6), 1+d.below(3)
	}
	return b
}

// isLate says whether the service of an act, or a copy that is to end, has another version in a book than it saw.
func isLate(b impl.StewBook, a impl.StewAct) bool {
	at := stewPlaceByHand(b, a.Service)
	return at < 0 || b.Services[at].Version != a.Seen || slices.ContainsFunc(a.Ends, func(e impl.StewEnd) bool {
		place := copyPlaceByHand(b, a.Service, e.Number)
		return place < 0 || b.Copies[place].Version != e.Seen
	})
}

// P17: stewards look at any older book of a history.
func TestDrawnLateActs(t *testing.T) {
	d := &dice{state: 1517}
	late, done := 0, 0
	for range 400 {
		past := []impl.StewBook{diceFleet(d)}
		for range 20 {
			b := past[len(past)-1]
			if b.Now >= impl.StewMaxNumber-1 {
				break
			}
			a := diceAct(d, past[d.below(len(past))])
			got, code := wantDrawnAct(t, b, a)
			if isLate(b, a) {
				late++
				if code != 3 && code != 4 {
					t.Errorf("%s saw an older book than %s: code %d", actTold(a), stewTold(b), code)
				}
			}
			if code == 0 {
				done++
				past = append(past, got)
			}
			if d.below(2) == 0 {
				past = append(past, drift(d, past[len(past)-1]))
			}
		}
	}
	if late < 1000 || done < 1000 {
		t.Errorf("the dice showed too little: %d late, %d done", late, done)
	}
}

// A copy that went and one that was wished for anew have other versions; so has a service that was dropped.
func TestALateActForWhatIsGoneByNow(t *testing.T) {
	b := fleetBook()
	void := impl.StewAct{Service: "void", Seen: 52, Drop: true}
	got := wantApplied(t, "dropped", b, void, 0)
	wantApplied(t, "dropped by now", got, impl.StewAct{Service: "void", Seen: 52}, 3)
	got.Services = slices.Insert(got.Services, fleetVoid, plainService("void"))
	got.Now, got.Services[fleetVoid].Version = 62, 62
	wantApplied(t, "there anew", got, void, 4)
	b.Copies = slices.Delete(b.Copies, fleetWebFirst+3, fleetWebFirst+4)
	wantApplied(t, "its copy went", b, webEnds(5), 3)
}
