package tests

import (
	"testing"

	"loop.example/wharfhall/impl"
)

// wantHandSlip asks GateSlipOf for what the document's words give, and gives its answer.
func wantHandSlip(t *testing.T, l impl.GateLaw, view impl.GateBook, door string, a impl.GateAsk) (impl.GateSlip, impl.GateSaid) {
	t.Helper()
	got, said := impl.GateSlipOf(l, view, door, a)
	slip, told := slipByHand(l, view, door, a)
	if said != told || !sameSlip(got, slip) {
		t.Fatalf("%q asks %+v of the view %+v:\n%+v, %+v,\nnot %+v, %+v", door, a, view, said, got, told, slip)
	}
	if said.Code == 0 && !impl.GateSlipOk(l, got) {
		t.Fatalf("a slip that is not ok: %+v", got)
	}
	return got, said
}

// wantHandCommit asks GateCommit for what the document's words give, and gives its answer.
func wantHandCommit(t *testing.T, l impl.GateLaw, b impl.GateBook, s impl.GateSlip) (impl.GateBook, impl.GateSaid) {
	t.Helper()
	if ok := impl.GateSlipOk(l, s); ok != slipOkByHand(l, s) {
		t.Fatalf("GateSlipOk(%+v) = %v", s, ok)
	}
	got, said := impl.GateCommit(l, b, s)
	book, told := commitByHand(l, b, s)
	if said != told || !sameBook(got, book) {
		t.Fatalf("%+v committed to %+v:\n%+v, %+v,\nnot %+v, %+v", s, b, said, got, told, book)
	}
	return got, said
}

// Slips of drawn views, as they are and with something turned in them, committed to the view and to any other book.
func TestDrawnSlips(t *testing.T) {
	t.Parallel()
	d := &dice{state: 707}
	made, told := map[[2]int]int{}, map[int]int{}
	for range 500 {
		l := dicePassLaw(d)
		view := dicePassBook(d, l)
		other := dicePassBook(d, l)
		for range 10 {
			a, door := diceAsk(d, l, view), oneOf(d, diceDoors...)
			s, said := wantHandSlip(t, l, view, door, a)
			made[[2]int{a.Verb, said.Code}]++
			if said.Code != 0 {
				s = impl.GateSlip{Door: door, Ask: a, Given: view.Given}
			}
			turned := slipTurnedByDice(d, view, s)
			for _, b := range []impl.GateBook{view, other} {
				for _, s := range []impl.GateSlip{s, turned, {Door: door, Ask: a, Given: b.Given}} {
					got, said := wantHandCommit(t, l, b, s)
					wantPassKept(t, l, b, got, said)
					told[said.Code]++
				}
			}
		}
	}
	for verb := impl.GateMake; verb <= impl.GateTake; verb++ {
		if made[[2]int{verb, 0}] < 90 || made[[2]int{verb, 2}] < 20 || made[[2]int{verb, 4}] < 20 || made[[2]int{verb, 11}] < 20 || made[[2]int{verb, 10}] > 0 {
			t.Errorf("the dice showed too little: %v", made)
		}
	}
	for code := range 13 {
		if code != 1 && told[code] < 40 {
			t.Errorf("the dice showed too little: %v", told)
		}
	}
}

// Promise 11: a slip of any older view is answered with 0, 10, 11 or 12, and where it is not 12, by what asking the
// book itself gives.
func TestLateSlips(t *testing.T) {
	t.Parallel()
	d := &dice{state: 1111}
	told, late := map[[2]int]int{}, map[int]int{}
	for range 500 {
		h, quiet := dicePast(d), d.below(4) > 0
		for range 50 {
			h.meanwhile(d, quiet)
			view := h.older(d)
			a, door := diceAsk(d, h.l, view), oneOf(d, diceDoors...)
			s, said := wantHandSlip(t, h.l, view, door, a)
			if said.Code != 0 || a.Number == 1 || a.Verb >= impl.GateGive && quiet && d.below(4) > 0 {
				continue
			}
			if d.below(4) == 0 {
				h.meddle(d, s)
			}
			b := h.now()
			got, said := wantHandCommit(t, h.l, b, s)
			told[[2]int{a.Verb, said.Code}]++
			switch said.Code {
			case 0, 10, 11:
				asked, same := impl.GatePass(h.l, b, door, a)
				if said != same || !sameBook(got, asked) {
					t.Fatalf("%+v of %+v: %+v, %+v,\nnot %+v, %+v", s, b, said, got, same, asked)
				}
			case 12:
				late[said.Place]++
			default:
				t.Fatalf("%+v of the view %+v is told %+v by %+v", s, view, said, b)
			}
			wantPassKept(t, h.l, b, got, said)
			h.books = append(h.books, got)
		}
	}
	for verb := impl.GateMake; verb <= impl.GateTake; verb++ {
		if told[[2]int{verb, 0}] < 100 || told[[2]int{verb, 11}] < 4 || told[[2]int{verb, 12}] < 50 {
			t.Errorf("the dice showed too little of verb %d: %v", verb, told)
		}
	}
	if told[[2]int{1, 10}] < 50 || told[[2]int{2, 10}] < 15 || late[0] < 200 || late[1] < 200 || late[2] < 20 || late[3] < 5 {
		t.Errorf("the dice showed too little: %v, %v", told, late)
	}
}

// A slip of the book itself is never late, and is told just what asking is told.
func TestASlipOfTheBookItself(t *testing.T) {
	d := &dice{state: 77}
	done := 0
	for range 400 {
		l := dicePassLaw(d)
		b := dicePassBook(d, l)
		for range 8 {
			a, door := diceAsk(d, l, b), oneOf(d, diceDoors...)
			asked, told := impl.GatePass(l, b, door, a)
			s, said := impl.GateSlipOf(l, b, door, a)
			// Code 10 alone hides codes that come behind it.
			if told.Code != 10 && said.Code != told.Code {
				t.Fatalf("%+v, and %+v of %+v", said, told, a)
			}
			if said.Code != 0 {
				continue
			}
			done++
			if got, said := impl.GateCommit(l, b, s); said != told || !sameBook(got, asked) {
				t.Fatalf("%+v of %+v: %+v, %+v,\nnot %+v, %+v", s, b, said, got, told, asked)
			}
		}
	}
	if done < 500 {
		t.Errorf("the dice showed too little: %d", done)
	}
}
