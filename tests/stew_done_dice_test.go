package tests

import (
	"fmt"
	"slices"
	"testing"

	"loop.example/wharfhall/impl"
)

// diceCalm is a book that is done.
func diceCalm(d *dice) impl.StewBook {
	b := diceFleet(d)
	b.Berths[d.below(len(b.Berths))].Drain = false
	open := slices.DeleteFunc(slices.Clone(b.Berths), func(berth impl.StewBerth) bool { return berth.Drain })
	b.Copies = nil
	for i := range b.Services {
		s := &b.Services[i]
		s.Gone, s.Next, s.Cool = false, 1, 0
		if s.Per > 0 {
			s.Want = dueByHand(*s)
		}
		for range s.Want {
			s.Next += d.below(3)
			b.Copies = append(b.Copies, impl.StewCopy{Service: s.Name, Number: s.Next, Version: 1 + d.below(b.Now), Image: s.Image, State: 3, Berth: oneOf(d, open...).Name})
			s.Next++
		}
	}
	return b
}

// unsettle turns something of a book that stays valid.
func unsettle(d *dice, b *impl.StewBook) {
	if len(b.Services) > 0 && d.below(2) == 0 {
		s := &b.Services[d.below(len(b.Services))]
		switch d.below(5) {
		case 0:
			s.Gone = !s.Gone
		case 1:
			s.Want = d.below(11)
		case 2:
			s.Image += 1 + d.below(2)
		case 3:
			if s.Per > 0 {
				s.Load = d.below(1000001)
			}
		default:
			if s.Per > 0 {
				s.Cool = d.below(4)
			}
		}
		return
	}
	if len(b.Copies) == 0 || d.below(6) == 0 {
		berth := &b.Berths[d.below(len(b.Berths))]
		berth.Drain = !berth.Drain
		return
	}
	at := d.below(len(b.Copies))
	switch c := &b.Copies[at]; d.below(5) {
	case 0:
		c.Ending = !c.Ending
	case 1:
		c.State, c.Berth = impl.StewWaiting, ""
	case 2:
		c.State, c.Berth = 2+d.below(3), oneOf(d, b.Berths...).Name
	case 3:
		c.Image++
	default:
		b.Copies = slices.Delete(b.Copies, at, at+1)
	}
}

func wantDrawnDone(t *testing.T, b impl.StewBook) bool {
	t.Helper()
	kept := stewCopyBook(b)
	done := doneByHand(b)
	wantStewDone(t, "drawn", b, done, fmt.Sprint(rankByHand(b)))
	if !sameStewBook(b, kept) {
		t.Fatalf("%s was written into: it was %s", stewTold(b), stewTold(kept))
	}
	return done
}

// P18 and P19, over many drawn books.
func TestDrawnBooksThatAreDoneOrNot(t *testing.T) {
	t.Parallel()
	d := &dice{state: 1818}
	seen := map[string]int{}
	for range 4000 {
		b := diceCalm(d)
		if !wantDrawnDone(t, b) {
			t.Fatalf("%s is not done", stewTold(b))
		}
		for range 1 + d.below(2) {
			unsettle(d, &b)
		}
		seen["done: "+fmt.Sprint(wantDrawnDone(t, b))]++
		for i, n := range impl.StewRank(b) {
			if n > 0 {
				seen["rank "+count(i)]++
			}
		}
		if slices.Equal(impl.StewRank(b), make([]int, 5)) && !impl.StewDone(b) {
			seen["rank 0, not done"]++
		}
		turnStewBook(d, &b)
		seen["valid: "+fmt.Sprint(impl.StewValid(b))]++
		wantDrawnDone(t, b)
		wantDrawnDone(t, diceStewBook(d))
	}
	wantSeen(t, seen, 100, "done: true", "done: false", "rank 0", "rank 1", "rank 2", "rank 3", "rank 4", "rank 0, not done", "valid: true", "valid: false")
}

// calmed lets a tick and then all stewards come, round by round, until a book is done.
func calmed(t *testing.T, b impl.StewBook) impl.StewBook {
	t.Helper()
	for range 300 {
		if impl.StewDone(b) {
			return b
		}
		b, _ = wantDrawnEvent(t, b, tickOf())
		for kind := impl.StewCounter; kind <= impl.StewDrainer; kind++ {
			for _, a := range impl.StewAsk(kind, b) {
				got, code := impl.StewApply(b, a)
				if code != 0 {
					t.Fatalf("%d asks for %s in %s: code %d", kind, actTold(a), stewTold(b), code)
				}
				b = got
			}
		}
	}
	t.Fatalf("behind 300 rounds it is %s", stewTold(b))
	return b
}

// P18 and P19, over histories: what they lead to, and what the stewards make of it in peace.
func TestDrawnHistoriesThatAreDone(t *testing.T) {
	d := &dice{state: 1819}
	services, copies := 0, 0
	for range 40 {
		b := fleetHistory(t, d, 80, func(b impl.StewBook) { wantDrawnDone(t, b) })
		b, _ = wantDrawnEvent(t, b, raiseOf(oneOf(d, diceBerths...), false))
		b = calmed(t, b)
		wantDrawnDone(t, b)
		services, copies = services+len(b.Services), copies+len(b.Copies)
		if len(b.Copies) == 0 {
			continue
		}
		failed, _ := wantDrawnEvent(t, b, failOf(b.Copies[0].Service, b.Copies[0].Number))
		if wantDrawnDone(t, failed) {
			t.Errorf("%s is done, though a copy failed", stewTold(failed))
		}
		calmed(t, failed)
	}
	if services < 50 || copies < 100 {
		t.Errorf("the dice showed too little: %d services, %d copies", services, copies)
	}
}
