package tests

import (
	"testing"

	"loop.example/wharfhall/impl"
)

// commitCase is all that GateCommit is given but the law.
type commitCase struct {
	book impl.GateBook
	slip impl.GateSlip
}

// memoryCommits are slips that are committed, ones that are late, and ones that are refused with each code.
func memoryCommits() map[string]commitCase {
	out := map[string]commitCase{}
	for what, c := range memoryPasses() {
		s := impl.GateSlip{Door: c.door, Ask: c.ask, Given: c.book.Given}
		add := func(how string) { out[what+how] = commitCase{c.book, s} }
		add("")
		s.Wants = manyWants(impl.GateMaxWants)
		add(", with wants")
		s.Wants = append(manyWants(3), notSo())
		add(", late")
		s.Given++
		add(", later")
		s.Wants = manyWants(impl.GateMaxWants + 1)
		add(", with a want too many")
	}
	return out
}

func TestNoSlipIsWrittenInto(t *testing.T) {
	for what, c := range memoryCommits() {
		l, b, s := withRoom(passLaw()), withRoom(c.book), withRoom(c.slip)
		lawBefore, bookBefore, slipBefore := opened(l), opened(b), opened(s)
		impl.GateSlipOf(l, b, s.Door, s.Ask)
		impl.GateSlipOk(l, s)
		impl.GateCommit(l, b, s)
		wantUntouched(t, what, l, lawBefore)
		wantUntouched(t, what, b, bookBefore)
		wantUntouched(t, what, s, slipBefore)
	}
}

func TestASlipSharesNoMemory(t *testing.T) {
	made := 0
	for what, c := range memoryCommits() {
		l, b, s := withRoom(passLaw()), withRoom(c.book), withRoom(c.slip)
		slip, said := impl.GateSlipOf(l, b, s.Door, s.Ask)
		if said.Code == 0 {
			made++
		}
		wantApart(t, what+": the slip", slip, l, b, s)
		got, _ := impl.GateCommit(l, b, s)
		wantApart(t, what+": the book", got, l, b, s)
	}
	if made < 6 {
		t.Errorf("only %d slips were made", made)
	}
}

// An ask may have one list twice; a slip of it has two.
func TestListsOfASlipShareNoMemory(t *testing.T) {
	list := []string{"a", "b", "c", "d", "e", "f"}
	l := passLaw()
	l.Shapes[0].Fields = nil
	l.Mends = nil
	for i := range 3 {
		l.Shapes[0].Fields = append(l.Shapes[0].Fields, impl.GateField{Name: names(3)[i], Kind: impl.GateText, Least: 1, Most: 9})
	}
	b := impl.GateBook{Now: 1, Given: 1, Grants: manyGrants(1)}
	a := holding(askMake("barge", "z", "dock", list[:3]...), list[:3]...)
	slip, said := impl.GateSlipOf(l, b, "d", a)
	if said.Code != 0 {
		t.Fatal(said)
	}
	wantApart(t, "values and holds", slip, l, b, a)
	got, said := impl.GateCommit(l, b, impl.GateSlip{Door: "d", Ask: a, Given: 1})
	if said.Code != 0 {
		t.Fatal(said)
	}
	wantApart(t, "values and holds", got, l, b, a)
	list[0] = "x"
	if slip.Ask.Values[0] != "a" || slip.Ask.Holds[0] != "a" || got.Objects[0].Values[0] != "a" {
		t.Errorf("%+v, %+v", slip, got)
	}
}

// The same call gives the same answer again, whatever was asked between.
func TestSlipsKeepNothing(t *testing.T) {
	for what, c := range memoryCommits() {
		s, said := impl.GateSlipOf(passLaw(), c.book, c.slip.Door, c.slip.Ask)
		kept := withRoom(s)
		b, told := impl.GateCommit(passLaw(), c.book, c.slip)
		keptBook := bookCopy(b)
		for _, other := range goodSlips() {
			impl.GateSlipOf(passLaw(), passBook(), "k", other.Ask)
			impl.GateCommit(passLaw(), passBook(), other)
			impl.GateCommit(passLaw(), b, other)
		}
		again, saidAgain := impl.GateSlipOf(passLaw(), c.book, c.slip.Door, c.slip.Ask)
		bookAgain, toldAgain := impl.GateCommit(passLaw(), c.book, c.slip)
		if said != saidAgain || told != toldAgain || !sameSlip(s, kept) || !sameSlip(again, kept) || !sameBook(b, keptBook) || !sameBook(bookAgain, keptBook) {
			t.Errorf("%s: %+v, then %+v", what, s, again)
		}
	}
}
