package tests

import (
	"testing"

	"loop.example/wharfhall/impl"
)

// memoryEvents are events that are done, and ones that are not, with each code.
func memoryEvents() []impl.StewEvent {
	events := append(fleetEvents(), impl.StewEvent{}, wishOf(fleetBook().Services[fleetWeb]), wishOf(plainService("n104")),
		raiseOf("a", true), raiseOf("n103", false), sinkOf("n102"), sinkOf("b"), failOf("web", 4), loadOf("web", 250))
	for _, code := range []int{2, 3} {
		events = append(events, faultyEvents()[code]...)
	}
	return events
}

func TestNoBookOfAnEventIsWrittenInto(t *testing.T) {
	for what, book := range stewardViews() {
		for _, e := range memoryEvents() {
			b := withRoom(book)
			before := opened(b)
			got, code := impl.StewSea(b, e)
			wantUntouched(t, what, b, before)
			wantApart(t, what, got, b)
			if want, plain := impl.StewSea(book, e); plain != code || !sameStewBook(got, want) {
				t.Errorf("%s: with room behind the lists %s gives %s, %d", what, eventTold(e), stewTold(got), code)
			}
		}
	}
}

// The same call gives the same answer again, whatever was asked between, and though the answer is spoiled.
func TestEventsKeepNothing(t *testing.T) {
	for what, book := range stewardViews() {
		for _, e := range memoryEvents() {
			first, code := impl.StewSea(book, e)
			kept := stewCopyBook(first)
			impl.StewSea(first, tickOf())
			impl.StewSea(fleetBook(), e)
			for i := range first.Copies {
				first.Copies[i] = impl.StewCopy{Service: "spoiled"}
			}
			for i := range first.Services {
				first.Services[i] = impl.StewService{Name: "spoiled"}
			}
			for i := range first.Berths {
				first.Berths[i].Name = "spoiled"
			}
			if again, same := impl.StewSea(book, e); same != code || !sameStewBook(again, kept) {
				t.Errorf("%s: %s gives %s, then %s", what, eventTold(e), stewTold(kept), stewTold(again))
			}
		}
	}
}
