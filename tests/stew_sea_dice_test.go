package tests

import (
	"testing"

	"loop.example/wharfhall/impl"
)

// diceWish is a wish for one of the services, or for a new one, within the bounds.
func diceWish(d *dice) impl.StewService {
	s := diceService(d, oneOf(d, diceServices...), 50)
	s.Want, s.Down, s.Over = min(s.Want, d.below(8)), d.below(3), 1+d.below(2)
	if s.Per > 0 {
		s.Per, s.Load = 10, d.below(100)
	}
	s.Next, s.Version, s.Cool = d.below(20)-5, d.below(20)-5, d.below(8)-2
	return s
}

// diceSeaEvent is an event that fits the book as a rule.
func diceSeaEvent(d *dice, b impl.StewBook) impl.StewEvent {
	e := impl.StewEvent{Kind: oneOf(d, 1, 1, 1, 2, 3, 3, 4, 5, 5, 6, 6), Flag: d.below(3) == 0}
	switch e.Kind {
	case impl.StewWish:
		e.Service = diceWish(d)
	case impl.StewFails:
		e.Name, e.Number = oneOf(d, diceServices...), d.below(12)
		if len(b.Copies) > 0 && d.below(4) > 0 {
			c := oneOf(d, b.Copies...)
			e.Name, e.Number = c.Service, c.Number
		}
	case impl.StewSink, impl.StewRaise:
		e.Name = oneOf(d, diceBerths...)
	case impl.StewLoad:
		e.Name, e.Number = oneOf(d, diceServices...), d.below(100)
		if d.below(8) == 0 {
			e.Number = oneOf(d, -1, 1000000, 1000001)
		}
		if len(b.Services) > 0 && d.below(4) > 0 {
			e.Name = oneOf(d, b.Services...).Name
		}
	}
	return e
}

// turnEvent turns one thing of an event.
func turnEvent(d *dice, e *impl.StewEvent) {
	turned := impl.StewBook{Services: []impl.StewService{e.Service}}
	switch d.below(6) {
	case 0:
		e.Kind = d.below(9) - 1
	case 1:
		e.Name = oneOf(d, "", "A", "none", "web-3", long(20), long(21))
	case 2:
		e.Number = oneOf(d, -1, 0, e.Number+1, 1000000, 1000001)
	case 3:
		e.Service.Name = oneOf(d, "", "A", "none", "0", long(20), long(21))
	case 4:
		e.Flag = !e.Flag
	default:
		n := oneOf(d, stewNumbers(&turned)...)
		*n = oneOf(d, -1, 0, 1, *n+1, 10, 11, 1000000, 1000001)
		e.Service = turned.Services[0]
	}
}

func wantDrawnEvent(t *testing.T, b impl.StewBook, e impl.StewEvent) (impl.StewBook, int) {
	t.Helper()
	kept := stewCopyBook(b)
	_, code := seaByHand(b, e)
	got := wantSea(t, "drawn", b, e, code)
	if !sameStewBook(b, kept) {
		t.Fatalf("%s was written into: it was %s", stewTold(b), stewTold(kept))
	}
	return got, code
}

// P14, over many drawn books and events.
func TestDrawnEvents(t *testing.T) {
	d := &dice{state: 1714}
	seen := map[string]int{}
	for range 5000 {
		b := oneOf(d, diceStewBook, diceFleet, diceView)(d)
		if d.below(8) == 0 {
			turnStewBook(d, &b)
		}
		for range 4 {
			e := diceSeaEvent(d, b)
			for range d.below(3) * d.below(2) {
				turnEvent(d, &e)
			}
			_, code := wantDrawnEvent(t, b, e)
			seen[count(e.Kind)+" code "+count(code)]++
		}
	}
	wantSeen(t, seen, 50, "1 code 0", "1 code 1", "1 code 7", "2 code 0", "2 code 1", "2 code 2", "2 code 7", "3 code 0", "3 code 3", "3 code 7",
		"4 code 0", "4 code 3", "4 code 7", "5 code 0", "5 code 2", "5 code 7", "6 code 0", "6 code 2", "6 code 3", "6 code 7", "0 code 4", "7 code 4")
}

// fleetHistory draws a history of events and of acts that stewards ask for by books that are older than they know;
// each change is handed to see.
func fleetHistory(t *testing.T, d *dice, steps int, see func(b impl.StewBook)) impl.StewBook {
	past := []impl.StewBook{{}}
	for range steps {
		b := past[len(past)-1]
		if d.below(2) == 0 {
			e := diceSeaEvent(d, b)
			if got, code := wantDrawnEvent(t, b, e); code == 0 {
				past = append(past, got)
				see(got)
			}
			continue
		}
		view := past[max(0, len(past)-1-d.below(4))]
		for _, a := range wantAsked(t, "history", 1+d.below(6), view) {
			got, code := wantDrawnAct(t, past[len(past)-1], a)
			if code == 0 {
				past = append(past, got)
				see(got)
			}
		}
	}
	return past[len(past)-1]
}

// P14, over histories from the book with nothing: all that they lead to is valid.
func TestDrawnHistoriesOfAFleet(t *testing.T) {
	d := &dice{state: 1715}
	seen := map[string]int{}
	for range 60 {
		fleetHistory(t, d, 120, func(b impl.StewBook) {
			if !validByHand(b) {
				t.Fatalf("a history led to %s", stewTold(b))
			}
			seen["books"]++
			for _, c := range b.Copies {
				seen["state "+count(c.State)]++
				if c.Ending {
					seen["ending"]++
				}
			}
		})
	}
	wantSeen(t, seen, 200, "books", "state 1", "state 2", "state 3", "state 4", "ending")
}

// A tick gives each copy at most one step, in one of the directions that there are.
func TestDrawnTicksStepByStep(t *testing.T) {
	d := &dice{state: 1716}
	seen := map[string]int{}
	for range 3000 {
		b := diceFleet(d)
		if b.Now == impl.StewMaxNumber {
			continue
		}
		got, _ := impl.StewSea(b, tickOf())
		for _, c := range b.Copies {
			at := copyPlaceByHand(got, c.Service, c.Number)
			if at < 0 != c.Ending {
				t.Fatalf("%+v of %s is not rightly in %s", c, stewTold(b), stewTold(got))
			}
			if at >= 0 {
				seen[count(c.State)+" to "+count(got.Copies[at].State)]++
			}
		}
	}
	wantSeen(t, seen, 100, "1 to 1", "1 to 2", "2 to 3", "3 to 3", "4 to 4")
	if len(seen) != 5 {
		t.Errorf("steps that there are not: %v", seen)
	}
}
