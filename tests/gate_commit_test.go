package tests

import (
	"testing"

	"loop.example/wharfhall/impl"
)

func TestAWrongBookCommitsNothing(t *testing.T) {
	s := slip(askEnd("stone", "s"))
	for what, l := range wrongLaws() {
		wantNoCommit(t, what, l, impl.GateBook{}, s, 1)
	}
	for what, b := range wrongBooks() {
		s.Given = b.Given
		wantNoCommit(t, what, storeLaw(), b, s, 1)
		wantNoCommit(t, what+", and no slip", storeLaw(), b, impl.GateSlip{}, 1)
		wantNoCommit(t, what+", and late", storeLaw(), b, slip(askEnd("stone", "s"), wanted("stone", "s", 9)), 1)
	}
}

// A door that is no name is one of a slip that is not ok, not of a book that is not.
func TestACommitWithoutADoor(t *testing.T) {
	for _, door := range notNames() {
		s := slip(askTake(2))
		s.Door = door
		wantNoCommit(t, "door "+door, passLaw(), passBook(), s, 2)
	}
}

func TestACommitWithAnotherGiven(t *testing.T) {
	for what, s := range goodSlips() {
		for _, given := range []int{0, 1, 7, 9, 20, 21, impl.GateMaxVersion + 1, 1 << 62} {
			s.Given = given
			wantLate(t, what+" at "+count(given), passLaw(), passBook(), s, lateAt(0))
		}
		b := passBook()
		b.Given = 9
		s.Given = 8
		wantLate(t, what+" of another book", passLaw(), b, s, lateAt(0))
		s.Given = 9
		if said := wantAsAsked(t, what, passLaw(), b, s); said.Code != 0 {
			t.Errorf("%s: %+v", what, said)
		}
	}
}

// wantCases are wants with whether they are so in passBook.
func wantCases() map[string]struct {
	want impl.GateWant
	so   bool
} {
	return map[string]struct {
		want impl.GateWant
		so   bool
	}{
		"its version":                      {wanted("barge", "b", 20), true},
		"of one that is Ending":            {wanted("barge", "e", 4), true},
		"of the last":                      {wanted("rope", "r", 6), true},
		"of one with another's name":       {wanted("barge", "p", 0), true},
		"none is there":                    {wanted("barge", "z", 0), true},
		"none of a kind without a shape":   {wanted("raft", "a", 0), true},
		"none ahead of all":                {wanted("a", "a", 0), true},
		"none behind all":                  {wanted("z", "z", 0), true},
		"one is there":                     {wanted("barge", "b", 0), false},
		"the first is there":               {wanted("barge", "a", 0), false},
		"an Ending one is there":           {wanted("barge", "e", 0), false},
		"an older version":                 {wanted("barge", "b", 19), false},
		"a version to come":                {wanted("barge", "b", 21), false},
		"another one's version":            {wanted("barge", "b", 3), false},
		"a great version":                  {wanted("barge", "b", 1<<62), false},
		"of one that is gone":              {wanted("barge", "z", 5), false},
		"of one of another kind":           {wanted("barge", "p", 2), false},
		"of one of a kind without a shape": {wanted("raft", "a", 3), false},
		"of one behind all":                {wanted("z", "z", 1), false},
	}
}

// A want is looked for in the book, whatever it has to do with the ask.
func TestWantsThatAreNotSo(t *testing.T) {
	for how, c := range wantCases() {
		for what, a := range goodAsks() {
			name := what + ": " + how
			alone, ahead := slip(a, c.want), slip(a, append([]impl.GateWant{c.want}, manyWants(2)...)...)
			behind, last := slip(a, append(manyWants(2), c.want)...), slip(a, append(manyWants(impl.GateMaxWants-1), c.want)...)
			if c.so {
				for _, s := range []impl.GateSlip{alone, ahead, behind, last} {
					if said := wantAsAsked(t, name, passLaw(), passBook(), s); said.Code != 0 {
						t.Errorf("%s: %+v", name, said)
					}
				}
				continue
			}
			wantLate(t, name, passLaw(), passBook(), alone, lateAt(1))
			wantLate(t, name+", ahead", passLaw(), passBook(), ahead, lateAt(1))
			wantLate(t, name+", behind", passLaw(), passBook(), behind, lateAt(3))
			wantLate(t, name+", last", passLaw(), passBook(), last, lateAt(impl.GateMaxWants))
		}
	}
}

func TestTheFirstWantThatIsNotSoIsTold(t *testing.T) {
	so, not := wanted("barge", "a", 3), wanted("barge", "a", 4)
	for part := range 1 << impl.GateMaxWants {
		var wants []impl.GateWant
		first := 0
		for i := range impl.GateMaxWants {
			if part>>i&1 == 0 {
				wants = append(wants, so)
				continue
			}
			wants = append(wants, not)
			if first == 0 {
				first = i + 1
			}
		}
		got, said := impl.GateCommit(passLaw(), passBook(), slip(askTake(2), wants...))
		if first > 0 && (said != lateAt(first) || !sameBook(got, passBook())) || first == 0 && said != (impl.GateSaid{Version: 21}) {
			t.Errorf("%+v: %+v, %+v", wants, said, got)
		}
		other := slip(askTake(2), wants...)
		other.Given = 7
		wantLate(t, "and another Given", passLaw(), passBook(), other, lateAt(0))
	}
}

// What an older view was relied on for, and what has become of it.
func TestCommitsBehindWhatTheyReliedOn(t *testing.T) {
	l := passLaw()
	after := func(asks ...impl.GateAsk) impl.GateBook {
		b := passBook()
		for _, a := range asks {
			next, said := impl.GatePass(l, b, "d", a)
			if said.Code != 0 {
				t.Fatalf("%+v: %+v", a, said)
			}
			b = next
		}
		return b
	}
	slips := goodSlips()
	making, changing, ending, lettingGo := slips["make"], slips["change"], slips["end"], slips["let go"]
	wantLate(t, "made meanwhile", l, after(askMake("barge", "z", "mill", "0", "0", "", "", "", "")), making, lateAt(1))
	wantLate(t, "the link's pier ends", l, after(askEnd("pier", "p")), making, lateAt(2))
	wantLate(t, "the link's pier is changed", l, after(askChange("pier", "p", "r", "", "")), changing, lateAt(2))
	wantLate(t, "the link's barge ends", l, after(askEnd("barge", "a")), making, lateAt(3))
	wantLate(t, "both end", l, after(askEnd("barge", "a"), askEnd("pier", "p")), changing, lateAt(2))
	wantLate(t, "it is changed", l, after(askChange("barge", "c", "1", "1", "", "", "q", "e")), changing, lateAt(1))
	wantLate(t, "it ends", l, after(askEnd("barge", "a")), ending, lateAt(1))
	wantLate(t, "a hold is let go", l, after(askLetGo("barge", "b", "h")), lettingGo, lateAt(1))
	wantLate(t, "another hold is let go", l, after(askLetGo("barge", "b", "tax")), lettingGo, lateAt(1))
	for what, s := range slips {
		wantLate(t, what+" where somebody gave", l, after(askGive("dee", openRule())), s, lateAt(0))
		wantLate(t, what+" where somebody took", l, after(askTake(3)), s, lateAt(0))
		if what != "let go" {
			if said := wantAsAsked(t, what, l, after(askEnd("barge", "b"), askLetGo("rope", "r", "h")), s); said != (impl.GateSaid{Version: 23}) {
				t.Errorf("%s behind what it did not rely on: %+v", what, said)
			}
		}
	}
	// What a link names that stays as it was is not relied on: q is turned, and c is changed all the same.
	same := slip(seeing(askChange("barge", "c", "0", "1", "", "", "q", "e"), 5), wanted("barge", "c", 5))
	turned := after(askLetGo("barge", "e", "h"))
	if said := wantAsAsked(t, "a link as before", l, turned, same); said.Code != 0 {
		t.Errorf("a link as before: %+v", said)
	}
}

// One that was made anew under the name of one that is gone has another version.
func TestACommitBehindOneOfTheSameName(t *testing.T) {
	l := passLaw()
	b := passBook()
	end, said := impl.GateSlipOf(l, b, "d", askEnd("barge", "b"))
	if said.Code != 0 {
		t.Fatal(said)
	}
	for _, a := range []impl.GateAsk{askLetGo("barge", "b", "h"), askLetGo("barge", "b", "tax"), askEnd("barge", "b")} {
		b, _ = impl.GatePass(l, b, "d", a)
	}
	wantLate(t, "Ending", l, b, end, lateAt(1))
	b, code := impl.GateSweep(l, b)
	if code != 0 || placeIn(b, barge("b", "", 0)) >= 0 {
		t.Fatalf("%d: %+v", code, b)
	}
	wantLate(t, "gone", l, b, end, lateAt(1))
	b, said = impl.GatePass(l, b, "d", askMake("barge", "b", "dock", "5", "0", "red", "9", "", "a"))
	if said.Code != 0 {
		t.Fatal(said)
	}
	wantLate(t, "there again", l, b, end, lateAt(1))
}

// A slip that no view made is answered by the book, with each code that an ask has.
func TestCommitsOfSlipsThatReliedOnNothing(t *testing.T) {
	seen := map[int]int{}
	for what, f := range codeCases() {
		for part := range 1 << len(f.faults) {
			c, want := f.spoiled(part, anyCode)
			if want.Code == 1 {
				continue
			}
			s := impl.GateSlip{Door: c.door, Ask: c.ask, Given: c.book.Given}
			got, said := impl.GateCommit(passLaw(), c.book, s)
			seen[said.Code]++
			if want.Code == 0 {
				want.Version = c.book.Now + 1
			}
			asked, told := impl.GatePass(passLaw(), c.book, c.door, c.ask)
			if said != want || told != want || !sameBook(got, asked) {
				t.Errorf("%s, faults %b: %+v, not %+v, and %+v", what, part, said, want, got)
			}
			if want.Code == 2 {
				continue
			}
			s.Wants = []impl.GateWant{notSo()}
			if _, said := impl.GateCommit(passLaw(), c.book, s); said != lateAt(1) {
				t.Errorf("%s, faults %b, and late: %+v", what, part, said)
			}
			s.Given++
			if _, said := impl.GateCommit(passLaw(), c.book, s); said != lateAt(0) {
				t.Errorf("%s, faults %b, and later: %+v", what, part, said)
			}
		}
	}
	for code := range 12 {
		if code != 1 && seen[code] == 0 {
			t.Errorf("code %d was never told: %v", code, seen)
		}
	}
}

// notSo is so in none of these books.
func notSo() impl.GateWant {
	return wanted("barge", "none", 9)
}
