package tests

import (
	"maps"
	"slices"
	"testing"

	"loop.example/wharfhall/impl"
)

func stewardViews() map[string]impl.StewBook {
	views := stewMemoryBooks()
	swept := stewServices(names(impl.StewMaxServices)...)
	for i := range swept.Services {
		s := &swept.Services[i]
		s.Gone, s.Next = true, 26
		for number := range 25 {
			swept.Copies = append(swept.Copies, waitingCopy(s.Name, number+1))
		}
	}
	maps.Copy(views, map[string]impl.StewBook{
		"the fleet": fleetBook(), "busy": busyFleet(), "swept": swept, "failed": crewBook(3, 1, 1, "F F F F F"),
		"waved": crewBook(3, 1, 1, "Ro Ro R W"), "drained": crewBook(3, 1, 1, "Rd Rd R W"), "loaded": loadedCrew(50, 1, 4, 2, 0),
	})
	return views
}

func TestNoViewIsWrittenInto(t *testing.T) {
	for what, book := range stewardViews() {
		for kind := range 8 {
			view := withRoom(book)
			before := opened(view)
			got := impl.StewAsk(kind, view)
			wantUntouched(t, what, view, before)
			wantApart(t, what, got, view)
			if want := impl.StewAsk(kind, book); !slices.EqualFunc(got, want, sameAct) {
				t.Errorf("%s: with room behind the lists %d asks for %s, not for %s", what, kind, asksTold(got), asksTold(want))
			}
		}
	}
}

// The same call gives the same answer again, whatever was asked between, and though the answer is spoiled.
func TestStewardsKeepNothing(t *testing.T) {
	for what, view := range stewardViews() {
		for kind := range 8 {
			first := impl.StewAsk(kind, view)
			told := asksTold(first)
			for i := range first {
				for j := range first[i].Ends {
					first[i].Ends[j] = impl.StewEnd{Number: -1, Seen: -1}
				}
				first[i] = impl.StewAct{Service: "spoiled"}
			}
			impl.StewAsk(7-kind, busyFleet())
			if again := asksTold(impl.StewAsk(kind, view)); again != told {
				t.Errorf("%s: %d asks for %s, then for %s", what, kind, told, again)
			}
		}
	}
}
