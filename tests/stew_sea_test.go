package tests

import (
	"slices"
	"testing"

	"loop.example/wharfhall/impl"
)

func TestACopyFails(t *testing.T) {
	b := dockBook("a b!", "W S:a R:b F:a We Se:b Re:a Fe:b")
	for number, want := range map[int]string{
		2: "1W 2F:a' 3R:b 4F:a 5We 6Se:b 7Re:a 8Fe:b",
		3: "1W 2S:a 3F:b' 4F:a 5We 6Se:b 7Re:a 8Fe:b",
		6: "1W 2S:a 3R:b 4F:a 5We 6Fe:b' 7Re:a 8Fe:b",
		7: "1W 2S:a 3R:b 4F:a 5We 6Se:b 7Fe:a' 8Fe:b",
	} {
		got := wantSea(t, "number "+count(number), b, failOf("web", number), 0)
		if told := dockTold(got); told != want {
			t.Errorf("%d: %s, not %s", number, told, want)
		}
		wantSea(t, "again, number "+count(number), got, failOf("web", number), 3)
	}
	for _, number := range []int{1, 4, 5, 8, 9, 0, -1, -1 << 62, 1<<62 - 1} {
		wantSea(t, "number "+count(number), b, failOf("web", number), 3)
	}
	for _, service := range []string{"", "we", "web-", "a", "b", "WEB", long(4000)} {
		wantSea(t, service, b, failOf(service, 2), 3)
	}
}

// Numbers are those within a service: of several services just one copy fails.
func TestACopyOfItsServiceFails(t *testing.T) {
	for _, c := range fleetBook().Copies {
		code := 3
		if c.State == impl.StewStarting || c.State == impl.StewReady {
			code = 0
		}
		got := wantSea(t, c.Service+count(c.Number), fleetBook(), failOf(c.Service, c.Number), code)
		if code != 0 {
			continue
		}
		want := fleetBook()
		at := copyPlaceByHand(want, c.Service, c.Number)
		want.Now, want.Copies[at].State, want.Copies[at].Version = 61, impl.StewFailed, 61
		if !sameStewBook(got, want) {
			t.Errorf("%s %d: %s", c.Service, c.Number, stewTold(got))
		}
	}
	wantSea(t, "no copies", fleetBook(), failOf("void", 1), 3)
	wantSea(t, "a copy that was", fleetBook(), failOf("web", 3), 3)
	wantSea(t, "the next copy", fleetBook(), failOf("web", 9), 3)
}

func TestABerthSinks(t *testing.T) {
	b := dockBook("a b! c", "R:a W Re:b S:b F:a We R:b Se:a")
	for berth, want := range map[string]string{
		"a": "2W 3Re:b 4S:b 6We 7R:b",
		"b": "1R:a 2W 5F:a 6We 8Se:a",
		"c": "1R:a 2W 3Re:b 4S:b 5F:a 6We 7R:b 8Se:a",
	} {
		got := wantSea(t, berth, b, sinkOf(berth), 0)
		if told := dockTold(got); told != want || len(got.Berths) != 2 || berthPlaceByHand(got, berth) >= 0 {
			t.Errorf("%s: %s, not %s, with %v", berth, told, want, got.Berths)
		}
		wantSea(t, "again "+berth, got, sinkOf(berth), 3)
	}
	for _, berth := range []string{"", "d", "web", "A", "a ", "aa", long(4000)} {
		wantSea(t, "no berth "+berth, b, sinkOf(berth), 3)
	}
	wantSea(t, "nothing", impl.StewBook{}, sinkOf("a"), 3)
}

func TestABerthSinksWithCopiesOfSeveralServices(t *testing.T) {
	got := wantSea(t, "a", fleetBook(), sinkOf("a"), 0)
	if told := dockTold(got); told != "2W 4Se:b 5R:b 2R:b 6F:b 2R:b" || !slices.Equal(got.Services, fleetBook().Services) {
		t.Error(stewTold(got))
	}
	got = wantSea(t, "b", got, sinkOf("b"), 0)
	if told := dockTold(got); told != "2W" || len(got.Berths) != 0 || got.Now != 62 {
		t.Error(stewTold(got))
	}
	full := manyCopies(impl.StewMaxCopies)
	full.Berths = stewBerths("a").Berths
	for i := range full.Copies {
		full.Copies[i].State, full.Copies[i].Berth = impl.StewReady, "a"
	}
	if got := wantSea(t, "all at once", full, sinkOf("a"), 0); len(got.Copies) != 0 || len(got.Services) != 1 {
		t.Error(stewTold(got))
	}
}

func TestABerthRises(t *testing.T) {
	b := dockBook("b d! f", "R:b W S:d")
	for name, place := range map[string]int{"a": 0, "-": 0, "9": 0, "b0": 1, "c": 1, "e": 2, "g": 3, "web": 3} {
		for _, drained := range []bool{false, true} {
			got := wantSea(t, name, b, raiseOf(name, drained), 0)
			want := stewCopyBook(b)
			want.Now, want.Berths = 501, slices.Insert(want.Berths, place, impl.StewBerth{Name: name, Drain: drained})
			if !sameStewBook(got, want) {
				t.Errorf("%s, %v: %s", name, drained, stewTold(got))
			}
		}
	}
	got := wantSea(t, "the first", impl.StewBook{}, raiseOf(long(20), true), 0)
	if !sameStewBook(got, impl.StewBook{Now: 1, Berths: []impl.StewBerth{{Name: long(20), Drain: true}}}) {
		t.Error(stewTold(got))
	}
}

func TestABerthThatIsThereRises(t *testing.T) {
	b := dockBook("b d! f", "R:b W S:d")
	for place, berth := range b.Berths {
		for _, drained := range []bool{false, true} {
			got := wantSea(t, berth.Name, b, raiseOf(berth.Name, drained), 0)
			want := stewCopyBook(b)
			want.Now, want.Berths[place].Drain = 501, drained
			if !sameStewBook(got, want) {
				t.Errorf("%s, %v: %s", berth.Name, drained, stewTold(got))
			}
		}
	}
}

func TestBerthsThatAreWrong(t *testing.T) {
	for _, name := range []string{"", "A", "a b", "a_", "é", "a\x00", "\xff", long(21), long(4000)} {
		wantSea(t, "named "+name, fleetBook(), raiseOf(name, false), 2)
		wantSea(t, "named "+name, impl.StewBook{}, raiseOf(name, true), 2)
	}
	all := names(impl.StewMaxBerths + 1)
	wantSea(t, "the last", stewBerths(all[:impl.StewMaxBerths-1]...), raiseOf(all[impl.StewMaxBerths-1], false), 0)
	wantSea(t, "the last, ahead", stewBerths(all[1:impl.StewMaxBerths]...), raiseOf(all[0], false), 0)
	full := stewBerths(all[:impl.StewMaxBerths]...)
	wantSea(t, "one more", full, raiseOf(all[impl.StewMaxBerths], false), 2)
	wantSea(t, "one more, ahead", full, raiseOf("0", true), 2)
	for _, berth := range full.Berths {
		wantSea(t, "one of them", full, raiseOf(berth.Name, true), 0)
	}
}

func TestALoad(t *testing.T) {
	for _, load := range []int{0, 1, 249, 250, 251, impl.StewMaxLoad - 1, impl.StewMaxLoad} {
		got := wantSea(t, count(load), fleetBook(), loadOf("web", load), 0)
		want := fleetBook()
		want.Now, want.Services[fleetWeb].Load, want.Services[fleetWeb].Version = 61, load, 61
		if !sameStewBook(got, want) {
			t.Errorf("a load of %d: %s", load, stewTold(got))
		}
	}
	for _, load := range []int{-1 << 62, -1, impl.StewMaxLoad + 1, 1<<62 - 1} {
		wantSea(t, count(load), fleetBook(), loadOf("web", load), 2)
	}
	for _, name := range []string{"", "a", "b", "WEB", "we", "web-", "zz", long(4000), "api", "old", "void", "web-2"} {
		for _, load := range []int{0, 250} {
			wantSea(t, name, fleetBook(), loadOf(name, load), 3)
		}
	}
	gone := turnedFleet(func(s *impl.StewService) { s.Gone = true })
	wantSea(t, "one that is Gone", gone, loadOf("web", 7), 0)
}
