package tests

import (
	"slices"
	"testing"

	"loop.example/wharfhall/impl"
)

func wantAsks(t *testing.T, what string, kind int, view impl.StewBook, want string) {
	t.Helper()
	if told := asksTold(wantAsked(t, what, kind, view)); told != want {
		t.Errorf("%s: %d asks for %q in %s, not for %q", what, kind, told, stewTold(view), want)
	}
}

func TestNobodyAsksByAWrongView(t *testing.T) {
	for what, b := range wrongStewBooks() {
		for kind := -1; kind <= 8; kind++ {
			wantAsks(t, what, kind, b, "")
		}
	}
}

// Of the fleet's book each steward asks for something, so that none of these kinds is taken for another.
func TestKindsThatAreNone(t *testing.T) {
	for kind := impl.StewCounter; kind <= impl.StewDrainer; kind++ {
		if len(impl.StewAsk(kind, busyFleet())) == 0 {
			t.Errorf("%d asks for nothing", kind)
		}
	}
	for _, kind := range []int{0, 7, 8, -1, -6, 256 + 1, 1 << 32, 1<<32 + 1, -1 << 63, 1<<63 - 1} {
		wantAsks(t, "no kind", kind, busyFleet(), "")
		wantAsks(t, "no kind", kind, impl.StewBook{}, "")
	}
}

func TestStewardsKinds(t *testing.T) {
	got := [6]int{impl.StewCounter, impl.StewWaver, impl.StewMender, impl.StewScaler, impl.StewSweeper, impl.StewDrainer}
	if got != [6]int{1, 2, 3, 4, 5, 6} {
		t.Errorf("%v", got)
	}
}

func TestWithoutServicesNobodyAsks(t *testing.T) {
	for kind := range 8 {
		wantAsks(t, "nothing", kind, impl.StewBook{}, "")
		wantAsks(t, "berths alone", kind, stewBerths(names(impl.StewMaxBerths)...), "")
	}
}

func TestAServiceWithoutCopies(t *testing.T) {
	b := crewBook(2, 1, 1, "")
	for kind, want := range []string{"", "web@9 +2", "", "", "", "", ""} {
		wantAsks(t, "wanted", kind, b, want)
	}
	b.Services[0].Want = 0
	for kind := range 7 {
		wantAsks(t, "none wanted", kind, b, "")
	}
	b.Services[0].Gone, b.Services[0].Want = true, 2
	for kind, want := range []string{"", "", "", "", "", "web@9 drop", ""} {
		wantAsks(t, "Gone", kind, b, want)
	}
}

// busyFleet is the fleet's book with more to do, so that there is something to ask for each steward.
func busyFleet() impl.StewBook {
	b := fleetBook()
	b.Services[0].Want = 4
	b.Copies = append(b.Copies, impl.StewCopy{Service: "web-2", Number: 3, Version: 27, Image: 2, State: impl.StewFailed, Berth: "b"})
	b.Services[4].Next, b.Services[4].Over = 4, 2
	return b
}

// The acts come in the order of the services, though some of them ask for nothing; each has its own versions.
func TestTheOrderOfTheActs(t *testing.T) {
	b := busyFleet()
	for kind, want := range []string{"",
		"api@50 +2",
		"web@53 +1",
		"web@53 -6 @16; web-2@54 -3 @27",
		"web@53 =3/0",
		"old@51 -2-5 @22 @24; void@52 drop",
		"web-2@54 +1",
	} {
		wantAsks(t, "busy", kind, b, want)
	}
	b = fleetBook()
	b.Services[fleetWeb].Over = 1
	b.Services[0].Want, b.Services[0].Down, b.Services[4].Want = 2, 2, 3
	b.Berths[0].Drain = true
	for kind, want := range []string{"",
		"web@53 -6 @16; web-2@54 +1",
		"web@53 -2 @12",
		"web@53 -6 @16",
		"web@53 =3/0",
		"old@51 -2-5 @22 @24; void@52 drop",
		"api@50 -1 @20",
	} {
		wantAsks(t, "drained", kind, b, want)
	}
}

// All eight services ask, or every other one.
func TestAllServicesAsk(t *testing.T) {
	b := stewServices(names(impl.StewMaxServices)...)
	for i := range b.Services {
		b.Services[i].Want = i % 2
	}
	wantAsks(t, "every other", impl.StewCounter, b, "n101@1 +1; n103@1 +1; n105@1 +1; n107@1 +1")
	b.Now = 30
	for i := range b.Services {
		b.Services[i].Want, b.Services[i].Version = i+1, 20-i
	}
	wantAsks(t, "all", impl.StewCounter, b, "n100@20 +1; n101@19 +2; n102@18 +3; n103@17 +4; n104@16 +5; n105@15 +6; n106@14 +7; n107@13 +8")
	for i := range b.Services {
		b.Services[i].Gone = true
	}
	wantAsks(t, "all Gone", impl.StewSweeper, b, "n100@20 drop; n101@19 drop; n102@18 drop; n103@17 drop; n104@16 drop; n105@15 drop; n106@14 drop; n107@13 drop")
}

// The stewards of the port look at services with names that berths have, too.
func TestThePortsStewards(t *testing.T) {
	b := portBook()
	for kind, want := range []string{"", "api@40 +2; web@12 +5", "", "", "web@12 =6/0", "db@7 -3 @9", ""} {
		wantAsks(t, "port", kind, b, want)
	}
}

// P15 but for code 7: what is asked for does not look at what is full.
func TestWhatIsAskedForWhereNothingMoreFits(t *testing.T) {
	b := manyCopies(impl.StewMaxCopies)
	b.Services = append(b.Services, plainService("web-2"))
	b.Services[1].Want = 3
	acts := wantAsked(t, "full", impl.StewCounter, b)
	if told := asksTold(acts); told != "web@1 -200 @1; web-2@1 +3" {
		t.Errorf("%s", told)
	}
	if _, code := impl.StewApply(b, acts[1]); code != 7 {
		t.Errorf("code %d", code)
	}
	b = crewBook(3, 1, 1, "R R")
	b.Now = impl.StewMaxNumber
	wantAsks(t, "the last Now", impl.StewCounter, b, "web@9 +1")
	b.Now, b.Services[0].Next = 500, impl.StewMaxNumber
	wantAsks(t, "the last Next", impl.StewCounter, b, "web@9 +1")
}

// A steward's acts are for different services, so that each is done though the others were done ahead of it.
func TestAllActsOfAStewardAreDoneInARow(t *testing.T) {
	for kind := impl.StewCounter; kind <= impl.StewDrainer; kind++ {
		for _, turn := range []bool{false, true} {
			b := busyFleet()
			acts := impl.StewAsk(kind, b)
			if turn {
				slices.Reverse(acts)
			}
			for _, a := range acts {
				b = wantApplied(t, "in a row", b, a, 0)
			}
		}
	}
}
