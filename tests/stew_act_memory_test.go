package tests

import (
	"testing"

	"loop.example/wharfhall/impl"
)

// memoryActs are acts that are done, and ones that are not, with each code.
func memoryActs() map[string]actCase {
	out := map[string]actCase{
		"nothing":  {},
		"create":   {fleetBook(), webCreate(1)},
		"scale":    {fleetBook(), webScale(4, 1)},
		"ends":     {fleetBook(), webEnds(2, 5, 6)},
		"no lists": {stewServices("web"), impl.StewAct{Service: "web", Seen: 1}},
		"full":     {manyCopies(impl.StewMaxCopies), impl.StewAct{Service: "web", Seen: 1, Ends: firstEnds(impl.StewMaxCopies)}},
		"harm":     {fleetBook(), webEnds(1, 2, 5, 6)},
	}
	eachActCase(func(what string, make func() actCase, faults []actFault) {
		out[what] = make()
		for i, f := range faults {
			c := make()
			f.spoil(&c)
			out[what+", fault "+count(i)] = c
		}
	})
	return out
}

func TestNoActIsWrittenInto(t *testing.T) {
	for what, c := range memoryActs() {
		b, a := withRoom(c.book), withRoom(c.act)
		bookBefore, actBefore := opened(b), opened(a)
		got, code := impl.StewApply(b, a)
		for number := range 10 {
			impl.StewMayEnd(b, a.Service, number)
		}
		wantUntouched(t, what, b, bookBefore)
		wantUntouched(t, what, a, actBefore)
		wantApart(t, what, got, b, a)
		if want, plain := impl.StewApply(c.book, c.act); plain != code || !sameStewBook(got, want) {
			t.Errorf("%s: with room behind the lists it is %s, %d", what, stewTold(got), code)
		}
	}
}

// The same call gives the same answer again, whatever was asked between.
func TestActsKeepNothing(t *testing.T) {
	for what, c := range memoryActs() {
		first, code := impl.StewApply(c.book, c.act)
		kept := stewCopyBook(first)
		impl.StewApply(first, webCreate(1))
		for i := range first.Copies {
			impl.StewMayEnd(first, first.Copies[i].Service, first.Copies[i].Number)
		}
		impl.StewApply(fleetBook(), webEnds(1, 5))
		again, same := impl.StewApply(c.book, c.act)
		if code != same || !sameStewBook(first, kept) || !sameStewBook(again, kept) {
			t.Errorf("%s: %s, then %s", what, stewTold(first), stewTold(again))
		}
	}
}
