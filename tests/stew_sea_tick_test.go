package tests

import (
	"testing"

	"loop.example/wharfhall/impl"
)

// tickCase is a dock behind a tick.
type tickCase struct {
	what, berths, copies, want string
}

func wantTicks(t *testing.T, cases []tickCase) {
	t.Helper()
	for _, c := range cases {
		b := dockBook(c.berths, c.copies)
		wantValid(t, c.what, b, true)
		got := wantSea(t, c.what, b, tickOf(), 0)
		if told := dockTold(got); told != c.want {
			t.Errorf("%s: behind a tick %q with %q is %q, not %q", c.what, c.copies, c.berths, told, c.want)
		}
		if got.Now != 501 || got.Services[0] != b.Services[0] || len(got.Berths) != len(b.Berths) {
			t.Errorf("%s: a tick made %s of %s", c.what, stewTold(got), stewTold(b))
		}
	}
}

func TestATickInEachState(t *testing.T) {
	wantTicks(t, []tickCase{
		{"one that waits", "a", "W", "1S:a'"},
		{"one that starts", "a", "S:a", "1R:a'"},
		{"one that is ready", "a", "R:a", "1R:a"},
		{"one that failed", "a", "F:a", "1F:a"},
		{"one that waits and ends", "a", "We", ""},
		{"one that starts and ends", "a", "Se:a", ""},
		{"one that is ready and ends", "a", "Re:a", ""},
		{"one that failed and ends", "a", "Fe:a", ""},
		{"all of them", "a b", "W S:a R:a F:b We Se:a Re:a Fe:b", "1S:b' 2R:a' 3R:a 4F:b"},
		{"turned around", "a b", "Fe:b Re:a Se:a We F:b R:a S:a W", "5F:b 6R:a 7R:a' 8S:b'"},
		{"none at all", "a", "", ""},
		{"one has a step a tick", "a", "W S:a W", "1S:a' 2R:a' 3S:a'"},
	})
}

func TestATickWithoutAnOpenBerth(t *testing.T) {
	wantTicks(t, []tickCase{
		{"no berth", "", "W W", "1W 2W"},
		{"one, to be drained", "a!", "W R:a", "1W 2R:a"},
		{"all to be drained", "a! b! c!", "W S:a W R:c We", "1W 2R:a' 3W 4R:c"},
		{"all but the first", "a b! c!", "W W R:a R:a", "1S:a' 2S:a' 3R:a 4R:a"},
		{"all but one between", "a! b c!", "W W R:b R:b", "1S:b' 2S:b' 3R:b 4R:b"},
		{"all but the last", "a! b! c", "W W R:c R:c", "1S:c' 2S:c' 3R:c 4R:c"},
	})
}

func TestATickTakesTheEmptiestBerth(t *testing.T) {
	wantTicks(t, []tickCase{
		{"the first has fewest", "a b c", "W R:b R:c", "1S:a' 2R:b 3R:c"},
		{"one between has fewest", "a b c", "W R:a R:c", "1S:b' 2R:a 3R:c"},
		{"the last has fewest", "a b c", "W R:a R:b", "1S:c' 2R:a 3R:b"},
		{"equally many", "a b c", "W R:a R:b R:c", "1S:a' 2R:a 3R:b 4R:c"},
		{"two have fewest", "a b c", "W R:a R:a R:b R:c", "1S:b' 2R:a 3R:a 4R:b 5R:c"},
		{"none on any", "a b c", "W", "1S:a'"},
		{"fewest on one to be drained", "a b! c", "W R:a R:a R:c", "1S:c' 2R:a 3R:a 4R:c"},
		{"one after the other", "a b c", "W W W W", "1S:a' 2S:b' 3S:c' 4S:a'"},
		{"one after the other, some there", "a b c", "W W W R:a W R:a R:b W", "1S:c' 2S:b' 3S:c' 4R:a 5S:a' 6R:a 7R:b 8S:b'"},
		{"in order, though the berth is taken behind", "a b", "R:b W R:b W W", "1R:b 2S:a' 3R:b 4S:a' 5S:a'"},
		{"failed ones stand there, too", "a b", "F:a F:a W S:b", "1F:a 2F:a 3S:b' 4R:b'"},
	})
}

// What goes stands nowhere any more when the others get their berths; what comes stands there for those behind it.
func TestATickCountsWhatIsThereThen(t *testing.T) {
	wantTicks(t, []tickCase{
		{"the fuller berth gets free", "a b", "Re:a Re:a R:a R:b R:b W", "3R:a 4R:b 5R:b 6S:a'"},
		{"one that goes is not counted", "a b", "Re:a R:b W", "2R:b 3S:a'"},
		{"one that goes is alone there", "a b", "R:a Re:b W", "1R:a 3S:b'"},
		{"behind the one that waits", "a b", "W R:b Se:a", "1S:a' 2R:b"},
		{"equally many behind it", "a b", "R:a R:b Re:b W", "1R:a 2R:b 4S:a'"},
		{"those that come are counted", "a b", "R:a W W W", "1R:a 2S:b' 3S:a' 4S:b'"},
		{"one that waits and goes gets none", "a b", "We W W", "2S:a' 3S:b'"},
		{"all at once", "a b c!", "Re:a Fe:a R:b W We S:b W Re:c W", "3R:b 4S:a' 6R:b' 7S:a' 9S:a'"},
	})
}

// The berths are shared: copies of all services stand there, and wait in the order of the book.
func TestATickOfSeveralServices(t *testing.T) {
	b := impl.StewBook{Now: 9, Berths: stewBerths("a", "b").Berths}
	b.Services = stewServices("db", "none", "web").Services
	b.Services[0].Next, b.Services[2].Next = 9, 9
	ready := func(service string, number int, berth string) impl.StewCopy {
		c := waitingCopy(service, number)
		c.State, c.Berth = impl.StewReady, berth
		return c
	}
	b.Copies = []impl.StewCopy{waitingCopy("db", 2), ready("db", 3, "a"), waitingCopy("web", 1), ready("web", 2, "a"), waitingCopy("web", 4)}
	got := wantSea(t, "two services", b, tickOf(), 0)
	if told := dockTold(got); told != "2S:b' 3R:a 1S:b' 2R:a 4S:a'" {
		t.Error(told)
	}
	fleet := wantSea(t, "the fleet", fleetBook(), tickOf(), 0)
	if told := dockTold(fleet); told != "1R:a 2S:a' 2R:a 5R:b 1R:a 2R:b 4R:a 5R:a' 6F:b 1R:a 2R:b" {
		t.Error(told)
	}
}

// A copy keeps all else that it has: its Image, though it is old, and its Number.
func TestATickKeepsTheRest(t *testing.T) {
	b := dockBook("a", "W S:a")
	b.Copies[0].Image, b.Copies[1].Image = 1, 7
	got := wantSea(t, "old ones", b, tickOf(), 0)
	if got.Copies[0] != (impl.StewCopy{Service: "web", Number: 1, Version: 501, Image: 1, State: impl.StewStarting, Berth: "a"}) ||
		got.Copies[1] != (impl.StewCopy{Service: "web", Number: 2, Version: 501, Image: 7, State: impl.StewReady, Berth: "a"}) {
		t.Error(stewTold(got))
	}
}

func TestATickThatChangesNothingButNow(t *testing.T) {
	for what, b := range map[string]impl.StewBook{
		"nothing": {}, "no copies": stewServices("a", "b"), "berths": stewBerths("a", "b"),
		"all ready": dockBook("a b", "R:a R:b"), "failed": dockBook("a", "F:a"), "no berth": dockBook("a!", "W W R:a"),
	} {
		got := wantSea(t, what, b, tickOf(), 0)
		if b.Now++; !sameStewBook(got, b) {
			t.Errorf("%s: a tick made %s of it", what, stewTold(got))
		}
	}
}

// A full book has room for all: 200 copies, 6 berths.
func TestATickOfAFullBook(t *testing.T) {
	b := manyCopies(impl.StewMaxCopies)
	b.Berths = stewBerths(names(impl.StewMaxBerths)...).Berths
	got := wantSea(t, "full", b, tickOf(), 0)
	got = wantSea(t, "full, again", got, tickOf(), 0)
	if n := impl.StewCountOf(got, "web"); n.Ready != impl.StewMaxCopies {
		t.Errorf("%+v", n)
	}
	for i := range got.Copies {
		got.Copies[i].Ending = true
	}
	if got = wantSea(t, "full, ending", got, tickOf(), 0); len(got.Copies) != 0 {
		t.Error(stewTold(got))
	}
}
