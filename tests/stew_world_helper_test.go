package tests

import (
	"fmt"
	"slices"
	"testing"

	"loop.example/wharfhall/impl"
)

func copyFleetWorld(w impl.StewWorld) impl.StewWorld {
	out := impl.StewWorld{Book: stewCopyBook(w.Book)}
	for _, b := range w.Past {
		out.Past = append(out.Past, stewCopyBook(b))
	}
	return out
}

func sameFleetWorld(a, b impl.StewWorld) bool {
	return sameStewBook(a.Book, b.Book) && slices.EqualFunc(a.Past, b.Past, sameStewBook)
}

// fleetWorldTold writes a world as far as somebody would read it.
func fleetWorldTold(w impl.StewWorld) string {
	return fmt.Sprintf("%s behind the Nows %v", stewTold(w.Book), nowsOf(w.Past))
}

func nowsOf(books []impl.StewBook) []int {
	var nows []int
	for _, b := range books {
		nows = append(nows, b.Now)
	}
	return nows
}

// emptyBooks are books with nothing but their Nows.
func emptyBooks(nows ...int) []impl.StewBook {
	var out []impl.StewBook
	for _, now := range nows {
		out = append(out, impl.StewBook{Now: now})
	}
	return out
}

// seaMove lets an event happen, by a Steward that is none.
func seaMove(e impl.StewEvent) impl.StewMove {
	return impl.StewMove{Event: e}
}

func stewardMove(steward, age int) impl.StewMove {
	return impl.StewMove{Steward: steward, Age: age}
}

func moveTold(m impl.StewMove) string {
	return fmt.Sprintf("%d at %d, or %s", m.Steward, m.Age, eventTold(m.Event))
}

// fleetOkByHand is what chapter 19 says of a world.
func fleetOkByHand(w impl.StewWorld) bool {
	ok := len(w.Past) <= 8 && validByHand(w.Book)
	for i, b := range w.Past {
		ok = ok && validByHand(b) && b.Now <= w.Book.Now && (i == 0 || w.Past[i-1].Now <= b.Now)
	}
	return ok
}

// viewByHand is the book as it was age books ago.
func viewByHand(w impl.StewWorld, age int) impl.StewBook {
	switch {
	case age <= 0 || len(w.Past) == 0:
		return w.Book
	case age > len(w.Past):
		return w.Past[0]
	}
	return w.Past[len(w.Past)-age]
}

// turnByHand puts the book as it was behind Past if its Now has changed.
func turnByHand(w *impl.StewWorld, b impl.StewBook) {
	if b.Now == w.Book.Now {
		return
	}
	w.Past = append(w.Past, w.Book)
	if len(w.Past) > 8 {
		w.Past = w.Past[1:]
	}
	w.Book = b
}

// moveByHand is what chapter 19 says of StewDo.
func moveByHand(w impl.StewWorld, m impl.StewMove) (impl.StewWorld, []int) {
	if !fleetOkByHand(w) {
		return impl.StewWorld{}, nil
	}
	w = copyFleetWorld(w)
	if m.Steward < 1 || m.Steward > 6 {
		b, code := seaByHand(w.Book, m.Event)
		turnByHand(&w, b)
		return w, []int{code}
	}
	var codes []int
	for _, a := range stewardByHand(m.Steward, viewByHand(w, m.Age)) {
		b, code := applyByHand(w.Book, a)
		turnByHand(&w, b)
		codes = append(codes, code)
	}
	return w, codes
}

// turnsByHand are the stewards that an order tells, and then all others.
func turnsByHand(order []int) []int {
	var turns []int
	for _, kind := range append(slices.Clone(order), 1, 2, 3, 4, 5, 6) {
		if kind >= 1 && kind <= 6 && !slices.Contains(turns, kind) {
			turns = append(turns, kind)
		}
	}
	return turns
}

// roundByHand is one round of StewCalm, with the codes of all acts.
func roundByHand(w impl.StewWorld, order []int) (impl.StewWorld, []int) {
	w, _ = moveByHand(w, seaMove(tickOf()))
	var codes []int
	for _, kind := range turnsByHand(order) {
		next, told := moveByHand(w, stewardMove(kind, 0))
		w, codes = next, append(codes, told...)
	}
	return w, codes
}

// calmByHand is what chapter 19 says of StewCalm.
func calmByHand(w impl.StewWorld, rounds int, order []int) impl.StewWorld {
	if !fleetOkByHand(w) {
		return impl.StewWorld{}
	}
	for i := 0; i < rounds && i < 1000; i++ {
		w, _ = roundByHand(w, order)
	}
	return w
}

// wantMove asks for the codes, and for the world that the document's words lead to beside them.
func wantMove(t *testing.T, what string, w impl.StewWorld, m impl.StewMove, codes ...int) impl.StewWorld {
	t.Helper()
	want, worded := moveByHand(w, m)
	if !slices.Equal(worded, codes) {
		t.Fatalf("%s: by the document's words %s of %s has the codes %v, not %v", what, moveTold(m), fleetWorldTold(w), worded, codes)
	}
	got, told := impl.StewDo(w, m)
	if !slices.Equal(told, codes) || !sameFleetWorld(got, want) {
		t.Errorf("%s: StewDo of %s in %s = %s, %v,\nnot %s, %v", what, moveTold(m), fleetWorldTold(w), fleetWorldTold(got), told, fleetWorldTold(want), codes)
	}
	if !impl.StewWorldOk(got) {
		t.Errorf("%s: %s of %s gives %s, which is not ok", what, moveTold(m), fleetWorldTold(w), fleetWorldTold(got))
	}
	return got
}

// wantCalm asks for the world that the document's words lead to.
func wantCalm(t *testing.T, what string, w impl.StewWorld, rounds int, order []int) impl.StewWorld {
	t.Helper()
	got, want := impl.StewCalm(w, rounds, order), calmByHand(w, rounds, order)
	if !sameFleetWorld(got, want) {
		t.Errorf("%s: StewCalm of %s by %d rounds in the order %v = %s,\nnot %s", what, fleetWorldTold(w), rounds, order, fleetWorldTold(got), fleetWorldTold(want))
	}
	return got
}

// wantFleetOk asks also that of a world that is not ok there is no move and no calm.
func wantFleetOk(t *testing.T, what string, w impl.StewWorld, want bool) {
	t.Helper()
	if got := impl.StewWorldOk(w); got != want || fleetOkByHand(w) != want {
		t.Errorf("%s: StewWorldOk of %s = %v", what, fleetWorldTold(w), got)
	}
	if want {
		return
	}
	for _, m := range []impl.StewMove{{}, seaMove(tickOf()), seaMove(raiseOf("new", false)), stewardMove(1, 0), stewardMove(3, 1), stewardMove(6, 99), stewardMove(7, 0)} {
		if got, codes := impl.StewDo(w, m); !sameFleetWorld(got, impl.StewWorld{}) || len(codes) != 0 {
			t.Errorf("%s: StewDo of %s in %s = %s, %v", what, moveTold(m), fleetWorldTold(w), fleetWorldTold(got), codes)
		}
	}
	for _, rounds := range []int{-1, 0, 1, 3} {
		if got := impl.StewCalm(w, rounds, []int{3}); !sameFleetWorld(got, impl.StewWorld{}) {
			t.Errorf("%s: StewCalm of %s by %d rounds = %s", what, fleetWorldTold(w), rounds, fleetWorldTold(got))
		}
	}
}
