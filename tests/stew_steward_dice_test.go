package tests

import (
	"slices"
	"testing"

	"loop.example/wharfhall/impl"
)

// diceView is a valid book that is nearer to what is wanted than others, so that not all stewards see the same need.
func diceView(d *dice) impl.StewBook {
	b := diceFleet(d)
	renewed, spared := d.below(2) == 0, d.below(2) == 0
	for i := range b.Services {
		s := &b.Services[i]
		s.Gone = d.below(6) == 0
		if d.below(3) > 0 {
			s.Want = min(impl.StewMaxWant, countByHand(b, *s).Live+d.below(3)-1-d.below(2))
			s.Want = max(0, s.Want)
		}
		if d.below(2) == 0 {
			s.Down, s.Over = oneOf(d, 0, 1, 2), oneOf(d, 1, 2)
		}
		if s.Per > 0 && d.below(2) == 0 {
			s.Per, s.Load = 10, d.below(110)
		}
		for j := range b.Copies {
			c := &b.Copies[j]
			if c.Service == s.Name && renewed {
				c.Image = s.Image
			}
			if c.Service == s.Name && spared && c.State != impl.StewWaiting && d.below(3) > 0 {
				c.State = impl.StewReady
			}
		}
	}
	return b
}

// askForm is what of an act is counted by those who drew it.
func askForm(kind int, a impl.StewAct) string {
	switch {
	case a.Create > 0:
		return count(kind) + "+"
	case len(a.Ends) > 1:
		return count(kind) + "--"
	case len(a.Ends) > 0:
		return count(kind) + "-"
	case a.Scale:
		return count(kind) + "="
	}
	return count(kind) + "drop"
}

func wantSeen(t *testing.T, seen map[string]int, least int, forms ...string) {
	t.Helper()
	for _, form := range forms {
		if seen[form] < least {
			t.Errorf("the dice showed too little of %s: %v", form, seen)
		}
	}
}

// P15, over many drawn books.
func TestDrawnStewards(t *testing.T) {
	d := &dice{state: 1615}
	seen := map[string]int{}
	for range 4000 {
		b := diceView(d)
		if d.below(10) == 0 {
			turnStewBook(d, &b)
		}
		kept := stewCopyBook(b)
		for kind := range 8 {
			for _, a := range wantAsked(t, "drawn", kind, b) {
				seen[askForm(kind, a)]++
				_, code := impl.StewApply(b, a)
				seen["code "+count(code)]++
			}
		}
		if !sameStewBook(b, kept) {
			t.Fatalf("%s was written into: it was %s", stewTold(b), stewTold(kept))
		}
	}
	wantSeen(t, seen, 300, "1+", "1-", "2+", "2-", "3-", "3--", "4=", "5-", "5--", "5drop", "6+", "6-", "code 0", "code 7")
}

// The stewards act by books that are older than they know, among all that drifts: what they ask for is done in the book
// that they saw, and wherever it is done, it harms nobody.
func TestDrawnStewardsOfAHistory(t *testing.T) {
	d := &dice{state: 1616}
	seen := map[string]int{}
	for range 150 {
		past := []impl.StewBook{diceView(d)}
		for range 30 {
			b := past[len(past)-1]
			if b.Now >= impl.StewMaxNumber-20 {
				break
			}
			kind := 1 + d.below(6)
			for _, a := range wantAsked(t, "history", kind, past[max(0, len(past)-1-d.below(4))]) {
				got, code := wantDrawnAct(t, b, a)
				seen["code "+count(code)]++
				if code == 0 {
					seen[askForm(kind, a)]++
					b = got
					past = append(past, got)
				}
			}
			if d.below(2) == 0 {
				past = append(past, drift(d, b))
			}
		}
	}
	wantSeen(t, seen, 20, "1+", "1-", "2+", "2-", "3-", "4=", "5-", "5drop", "6+", "6-", "code 0", "code 4")
}

// What is asked for one service does not hang on the others.
func TestDrawnServicesAskAlone(t *testing.T) {
	d := &dice{state: 1617}
	some := 0
	for range 300 {
		b := diceView(d)
		for kind := impl.StewCounter; kind <= impl.StewDrainer; kind++ {
			var alone []impl.StewAct
			for _, s := range b.Services {
				one := stewCopyBook(b)
				one.Services = []impl.StewService{s}
				one.Copies = slices.DeleteFunc(one.Copies, func(c impl.StewCopy) bool { return c.Service != s.Name })
				alone = append(alone, impl.StewAsk(kind, one)...)
			}
			if all := impl.StewAsk(kind, b); !slices.EqualFunc(all, alone, sameAct) {
				t.Errorf("%d asks for %s in %s, and service by service for %s", kind, asksTold(all), stewTold(b), asksTold(alone))
			}
			some += len(alone)
		}
	}
	if some < 1000 {
		t.Errorf("the dice showed too little: %d", some)
	}
}
