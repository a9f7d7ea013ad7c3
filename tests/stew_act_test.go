package tests

import (
	"slices"
	"testing"

	"loop.example/wharfhall/impl"
)

// An act that asks for nothing is done, too: the service gets the version.
func TestAnActOfNothing(t *testing.T) {
	got := wantApplied(t, "nothing", fleetBook(), impl.StewAct{Service: "web", Seen: webVersion}, 0)
	want := fleetBook()
	want.Now, want.Services[fleetWeb].Version = 61, 61
	if !sameStewBook(got, want) {
		t.Errorf("%s,\nnot %s", stewTold(got), stewTold(want))
	}
	wantApplied(t, "empty Ends", fleetBook(), webAct(func(a *impl.StewAct) { a.Ends = []impl.StewEnd{} }), 0)
}

func TestACreate(t *testing.T) {
	b := turnedFleet(func(s *impl.StewService) { s.Over = 5 })
	got := wantApplied(t, "three", b, webCreate(3), 0)
	b.Now, b.Services[fleetWeb].Version, b.Services[fleetWeb].Next = 61, 61, 12
	var made []impl.StewCopy
	for _, number := range []int{9, 10, 11} {
		made = append(made, impl.StewCopy{Service: "web", Number: number, Version: 61, Image: 2, State: impl.StewWaiting})
	}
	// They stand behind the service's other copies, and ahead of those of web-2.
	b.Copies = slices.Insert(b.Copies, 11, made...)
	if !sameStewBook(got, b) {
		t.Errorf("%s,\nnot %s", stewTold(got), stewTold(b))
	}
}

// Copies that are created are of the service's Image, though all others are of another one; a Number never comes again.
func TestCreatedCopies(t *testing.T) {
	for _, service := range []string{"a", "m", "z"} {
		b := stewServices("a", "m", "z")
		at := stewPlaceByHand(b, service)
		for i := range b.Services {
			b.Services[i].Next, b.Services[i].Want, b.Services[i].Image = 40, 2, 5+i
			if i != at {
				b.Copies = append(b.Copies, waitingCopy(b.Services[i].Name, 3), waitingCopy(b.Services[i].Name, 39))
			}
		}
		got := wantApplied(t, service, b, impl.StewAct{Service: service, Seen: 1, Create: 2}, 0)
		for i, number := range []int{40, 41} {
			want := impl.StewCopy{Service: service, Number: number, Version: 2, Image: 5 + at, State: impl.StewWaiting}
			if c := got.Copies[2*at+i]; c != want {
				t.Errorf("%s: %+v, not %+v", service, c, want)
			}
		}
		if s := got.Services[at]; s.Next != 42 || s.Version != 2 || len(got.Copies) != 6 {
			t.Errorf("%s: %s", service, stewTold(got))
		}
	}
}

func TestHowManyAreCreated(t *testing.T) {
	empty := stewServices("web")
	empty.Services[0].Want, empty.Services[0].Over = impl.StewMaxWant, impl.StewMaxSpare
	for _, c := range []struct{ create, code int }{
		{-1 << 63, 2}, {-1, 2}, {0, 0}, {1, 0}, {19, 0}, {20, 0}, {21, 2}, {200, 2}, {1<<63 - 1, 2},
	} {
		wantApplied(t, "Create "+count(c.create), empty, impl.StewAct{Service: "web", Seen: 1, Create: c.create}, c.code)
	}
	// What is Ending is not Live, and makes room at once.
	for over := 1; over <= impl.StewMaxSpare; over++ {
		b := turnedFleet(func(s *impl.StewService) { s.Over = over })
		for create := range 10 {
			code := 6
			if create == 0 || 5+create <= 3+over {
				code = 0
			}
			wantApplied(t, "created over", b, webCreate(create), code)
			behind := webEnds(2, 5, 6)
			behind.Create = create
			code = 6
			if create == 0 || 2+create <= 3+over {
				code = 0
			}
			wantApplied(t, "created behind ends", b, behind, code)
		}
	}
}

// A Scale that raises Want makes room for what is created by the same act; one that lowers it takes it.
func TestCreatesComeBehindAScale(t *testing.T) {
	for want := 1; want <= 6; want++ {
		for create := range 8 {
			a := webScale(want, 0)
			a.Create = create
			code := 6
			if create == 0 || 5+create <= want+3 {
				code = 0
			}
			wantApplied(t, "scaled", fleetBook(), a, code)
			a.Ends = seenEnds(5)
			code = 6
			if create == 0 || 4+create <= want+3 {
				code = 0
			}
			wantApplied(t, "ended and scaled", fleetBook(), a, code)
		}
	}
}

func TestNothingIsCreatedOfOneThatIsGone(t *testing.T) {
	b := turnedFleet(func(s *impl.StewService) { s.Gone, s.Over = true, 10 })
	wantApplied(t, "Gone", b, webCreate(1), 6)
	wantApplied(t, "Gone", b, webCreate(0), 0)
	wantApplied(t, "Gone", b, webScale(2, 1), 0)
	wantApplied(t, "Gone", b, webEnds(1, 2, 4, 5, 6), 0)
	ended := webEnds(1, 2, 4, 5, 6)
	ended.Create = 1
	wantApplied(t, "Gone, and all ended", b, ended, 6)
	wantApplied(t, "Gone without copies", fleetBook(), impl.StewAct{Service: "void", Seen: 52, Create: 1}, 6)
}

func TestEnds(t *testing.T) {
	got := wantApplied(t, "one that is ready and all that are not", fleetBook(), webEnds(2, 5, 6), 0)
	want := fleetBook()
	want.Now, want.Services[fleetWeb].Version = 61, 61
	for _, i := range []int{1, 3, 4} {
		want.Copies[fleetWebFirst+i].Ending, want.Copies[fleetWebFirst+i].Version = true, 61
	}
	if !sameStewBook(got, want) {
		t.Errorf("%s,\nnot %s", stewTold(got), stewTold(want))
	}
	wantApplied(t, "Ending already", fleetBook(), webEnds(7), 5)
	wantApplied(t, "Ending already, behind others", fleetBook(), webEnds(5, 6, 7), 5)
	gone := turnedFleet(func(s *impl.StewService) { s.Gone = true })
	wantApplied(t, "Ending already, of one that is Gone", gone, webEnds(7), 5)
	wantApplied(t, "all of one that is Gone", gone, webEnds(1, 2, 4, 5, 6), 0)
}

// Each of two may end alone, but not one behind the other: which two, and what ends between them, is all the same.
func TestEndsComeOneAfterTheOther(t *testing.T) {
	b := fleetBook()
	for _, n := range []int{1, 2, 4} {
		wantApplied(t, "alone", b, webEnds(n), 0)
	}
	for _, numbers := range [][]int{{1, 2}, {1, 4}, {2, 4}, {1, 2, 4}, {1, 2, 5}, {2, 4, 5}, {1, 4, 5, 6}} {
		wantApplied(t, "two", b, webEnds(numbers...), 5)
	}
	for _, numbers := range [][]int{{1, 5}, {4, 5, 6}, {2, 6}, {5, 6}} {
		wantApplied(t, "one that is ready", b, webEnds(numbers...), 0)
	}
	// As many as are above Want less Down; one more not.
	for ready := range 9 {
		for want := range 9 {
			for down := range 4 {
				b := readyBook(want, down, ready, 2)
				may := min(ready, max(0, ready-max(0, want-down)))
				for n := range ready + 1 {
					a := impl.StewAct{Service: "web", Seen: 1, Ends: firstEnds(n)}
					code := 5
					if n <= may {
						code = 0
					}
					wantApplied(t, "so many", b, a, code)
				}
			}
		}
	}
}

func firstEnds(n int) []impl.StewEnd {
	var ends []impl.StewEnd
	for i := range n {
		ends = append(ends, impl.StewEnd{Number: i + 1, Seen: 1})
	}
	return ends
}

// What may not end alone may not end behind another either: ends make nobody ready, and so does what is created.
func TestNothingMayEndOnlyBehindAnother(t *testing.T) {
	b := turnedFleet(func(s *impl.StewService) { s.Down = 0 })
	for _, numbers := range [][]int{{1}, {2}, {4}, {4, 5}, {4, 6}, {4, 5, 6}, {2, 5, 6}} {
		a := webEnds(numbers...)
		wantApplied(t, "too few", b, a, 5)
		a.Create = 1
		wantApplied(t, "too few, and one created", b, a, 5)
	}
	wantApplied(t, "others", b, webEnds(5, 6), 0)
}

// With Scale it is the Want that was by which copies may end.
func TestEndsAreByTheWantThatWas(t *testing.T) {
	for want := 1; want <= 6; want++ {
		a := webScale(want, 0)
		a.Ends = seenEnds(1)
		wantApplied(t, "one", fleetBook(), a, 0)
		a.Ends = seenEnds(1, 2)
		wantApplied(t, "two", fleetBook(), a, 5)
	}
}

func TestHowManyEnds(t *testing.T) {
	b := manyCopies(impl.StewMaxCopies)
	a := impl.StewAct{Service: "web", Seen: 1, Ends: firstEnds(impl.StewMaxCopies)}
	got := wantApplied(t, "all", b, a, 0)
	if n := impl.StewCountOf(got, "web"); n.Ending != impl.StewMaxCopies || n.Live != 0 {
		t.Errorf("all: %+v", n)
	}
	a.Ends = firstEnds(impl.StewMaxCopies + 1)
	wantApplied(t, "one too many", b, a, 2)
	a.Ends = firstEnds(impl.StewMaxCopies)
	a.Ends[0].Number = 0
	wantApplied(t, "one that is not there", b, a, 3)
}

func TestEndsAscend(t *testing.T) {
	for _, c := range []struct {
		numbers []int
		code    int
	}{
		{[]int{5, 6}, 0}, {[]int{6, 5}, 2}, {[]int{5, 5}, 2}, {[]int{1, 6, 5}, 2}, {[]int{1, 5, 5}, 2}, {[]int{5, 6, 6}, 2},
		{[]int{-3, -2}, 3}, {[]int{-2, -3}, 2}, {[]int{0}, 3}, {[]int{9, 9}, 2}, {[]int{9, 10}, 3}, {[]int{10, 9}, 2},
	} {
		wantApplied(t, "ends", fleetBook(), webEnds(c.numbers...), c.code)
	}
	twice := webEnds(5, 5)
	twice.Ends[1].Seen = 16
	wantApplied(t, "one Number, seen twice", fleetBook(), twice, 2)
}

func TestAScale(t *testing.T) {
	got := wantApplied(t, "more", fleetBook(), webScale(5, 1), 0)
	want := fleetBook()
	want.Now = 61
	want.Services[fleetWeb].Version, want.Services[fleetWeb].Want, want.Services[fleetWeb].Cool = 61, 5, 1
	if !sameStewBook(got, want) {
		t.Errorf("%s,\nnot %s", stewTold(got), stewTold(want))
	}
	for want := -1; want <= impl.StewMaxWant+1; want++ {
		for _, bounds := range [][2]int{{1, 6}, {0, impl.StewMaxWant}, {3, 3}, {0, 0}, {impl.StewMaxWant, impl.StewMaxWant}} {
			b := turnedFleet(func(s *impl.StewService) { s.Least, s.Most = bounds[0], bounds[1] })
			code := 0
			if want < 0 || want > impl.StewMaxWant {
				code = 2
			} else if want < bounds[0] || want > bounds[1] {
				code = 6
			}
			wantApplied(t, "Want "+count(want), b, webScale(want, 0), code)
		}
	}
	for _, c := range []struct{ cool, code int }{{-1, 2}, {0, 0}, {1, 0}, {impl.StewCool, 0}, {impl.StewCool + 1, 2}, {-1 << 63, 2}, {1<<63 - 1, 2}} {
		wantApplied(t, "Cool "+count(c.cool), fleetBook(), webScale(3, c.cool), c.code)
	}
	for _, huge := range []int{-1 << 63, 1<<63 - 1} {
		wantApplied(t, "Want "+count(huge), fleetBook(), webScale(huge, 0), 2)
	}
}

// Of one that does not follow its load Want stays, whatever it would become.
func TestNoScaleWithoutAPer(t *testing.T) {
	b := turnedFleet(func(s *impl.StewService) { s.Per, s.Least, s.Most, s.Load, s.Cool = 0, 0, 0, 0, 0 })
	for _, want := range []int{0, 1, 3, 10} {
		wantApplied(t, "no Per", b, webScale(want, 0), 6)
	}
	wantApplied(t, "too much", b, webScale(11, 0), 2)
	b = turnedFleet(func(s *impl.StewService) { s.Per, s.Load = 1, 0 })
	wantApplied(t, "a Per of 1", b, webScale(3, 0), 0)
}

func TestWantAndCoolAreNothingWithoutScale(t *testing.T) {
	for _, n := range []int{-1, 1, 2, 3, 11} {
		wantApplied(t, "Want", fleetBook(), webAct(func(a *impl.StewAct) { a.Want = n }), 2)
		wantApplied(t, "Cool", fleetBook(), webAct(func(a *impl.StewAct) { a.Cool = n }), 2)
		wantApplied(t, "both", fleetBook(), webAct(func(a *impl.StewAct) { a.Want, a.Cool = n, n }), 2)
		wantApplied(t, "beside others", fleetBook(), webAct(func(a *impl.StewAct) { a.Create, a.Want = 1, n }), 2)
		wantApplied(t, "with Drop", fleetBook(), webAct(func(a *impl.StewAct) { a.Drop, a.Cool = true, n }), 2)
	}
}

func TestADrop(t *testing.T) {
	void := impl.StewAct{Service: "void", Seen: 52, Drop: true}
	got := wantApplied(t, "Gone without copies", fleetBook(), void, 0)
	want := fleetBook()
	want.Now, want.Services = 61, slices.Delete(want.Services, fleetVoid, fleetVoid+1)
	if !sameStewBook(got, want) {
		t.Errorf("%s,\nnot %s", stewTold(got), stewTold(want))
	}
	wantApplied(t, "dropped already", got, void, 3)
	wantApplied(t, "Gone with copies", fleetBook(), impl.StewAct{Service: "old", Seen: 51, Drop: true}, 6)
	wantApplied(t, "not Gone", fleetBook(), webAct(func(a *impl.StewAct) { a.Drop = true }), 6)
	wantApplied(t, "not Gone, without copies", stewServices("web"), impl.StewAct{Service: "web", Seen: 1, Drop: true}, 6)
	b := fleetBook()
	b.Copies = slices.Delete(b.Copies, 2, 3)
	b.Copies = slices.Delete(b.Copies, 3, 4)
	wantApplied(t, "one copy, which is Ending", b, impl.StewAct{Service: "old", Seen: 51, Drop: true}, 6)
	b.Copies = slices.Delete(b.Copies, 2, 3)
	wantApplied(t, "the last copy is gone", b, impl.StewAct{Service: "old", Seen: 51, Drop: true}, 0)
	only := stewServices("web")
	only.Services[0].Gone = true
	wantApplied(t, "the only one", only, impl.StewAct{Service: "web", Seen: 1, Drop: true}, 0)
}

func TestADropIsAlone(t *testing.T) {
	for what, turn := range map[string]func(a *impl.StewAct){
		"Create":       func(a *impl.StewAct) { a.Create = 1 },
		"Scale":        func(a *impl.StewAct) { a.Scale = true },
		"Scale to one": func(a *impl.StewAct) { a.Scale, a.Want = true, 1 },
		"Ends":         func(a *impl.StewAct) { a.Ends = []impl.StewEnd{{Number: 1, Seen: 1}} },
	} {
		a := impl.StewAct{Service: "void", Seen: 52, Drop: true}
		turn(&a)
		wantApplied(t, what, fleetBook(), a, 2)
	}
	wantApplied(t, "empty Ends", fleetBook(), impl.StewAct{Service: "void", Seen: 52, Drop: true, Ends: []impl.StewEnd{}}, 0)
}

func TestAnActForWhatIsNotThere(t *testing.T) {
	for _, service := range []string{"", "a", "b", "we", "web-", "web-3", "WEB", "é", "\x00", long(500)} {
		wantApplied(t, service, fleetBook(), impl.StewAct{Service: service, Seen: webVersion, Create: 1}, 3)
		wantApplied(t, service, fleetBook(), impl.StewAct{Service: service, Seen: webVersion, Ends: seenEnds(5)}, 3)
		wantApplied(t, service, impl.StewBook{}, impl.StewAct{Service: service}, 3)
	}
	for _, number := range []int{-1, 0, 3, 8, 9, 1000000, 1000001} {
		wantApplied(t, "end "+count(number), fleetBook(), webEnds(number), 3)
	}
	wantApplied(t, "one that is there and one that is not", fleetBook(), webEnds(5, 9), 3)
	wantApplied(t, "one that is not there and one that is", fleetBook(), webEnds(3, 5), 3)
	// web has a copy with this Number; api has none.
	wantApplied(t, "another's copy", fleetBook(), impl.StewAct{Service: "api", Seen: 50, Ends: []impl.StewEnd{{Number: 5, Seen: 15}}}, 3)
}

func TestALateAct(t *testing.T) {
	for _, seen := range []int{webVersion - 1, webVersion + 1, 0, -1, 60, 61, -webVersion, 1<<63 - 1} {
		for _, a := range []impl.StewAct{webCreate(1), webCreate(0), webScale(3, 0), webEnds(5)} {
			a.Seen = seen
			wantApplied(t, "Seen "+count(seen), fleetBook(), a, 4)
		}
	}
	for i := range 3 {
		for _, by := range []int{-1, 1, -20, 20} {
			a := webEnds(2, 5, 6)
			a.Ends[i].Seen += by
			wantApplied(t, "an end by "+count(by), fleetBook(), a, 4)
		}
	}
	// Another service's version, and another copy's, are of no use.
	a := webEnds(5, 6)
	a.Ends[0].Seen, a.Ends[1].Seen = 16, 15
	wantApplied(t, "turned around", fleetBook(), a, 4)
	// What has changed beside them is all the same.
	b := fleetBook()
	b.Services[0].Version, b.Copies[fleetWebFirst].Version = 60, 60
	wantApplied(t, "others have changed", b, webEnds(2, 5), 0)
}

// An act that was done is late when it comes again.
func TestAnActIsDoneOnce(t *testing.T) {
	for what, a := range map[string]impl.StewAct{"create": webCreate(1), "scale": webScale(4, 0), "ends": webEnds(2), "nothing": webCreate(0)} {
		got := wantApplied(t, what, fleetBook(), a, 0)
		wantApplied(t, what, got, a, 4)
		a.Seen = 61
		if what == "ends" {
			wantApplied(t, what, got, a, 4)
			a.Ends[0].Seen = 61
			wantApplied(t, what, got, a, 5)
		}
	}
}

// crowdedBook has so many copies, all but two of them of another service, Ending or not.
func crowdedBook(n int) impl.StewBook {
	b := manyCopies(n - 2)
	b.Services = append(b.Services, impl.StewService{Name: "x", Version: 1, Image: 1, Want: 10, Over: 10, Next: 8})
	b.Copies = append(b.Copies, waitingCopy("x", 6), waitingCopy("x", 7))
	for i := range b.Copies {
		b.Copies[i].Ending = i%3 == 0
	}
	return b
}

func TestHowManyCopiesThereAre(t *testing.T) {
	for _, c := range []struct{ there, create, code int }{
		{180, 18, 0}, {198, 2, 0}, {199, 1, 0}, {199, 2, 7}, {200, 0, 0}, {200, 1, 7}, {185, 15, 0}, {185, 16, 7},
	} {
		got := wantApplied(t, "crowded", crowdedBook(c.there), impl.StewAct{Service: "x", Seen: 1, Create: c.create}, c.code)
		if c.code == 0 && len(got.Copies) != c.there+c.create {
			t.Errorf("%d copies and %d are %d", c.there, c.create, len(got.Copies))
		}
	}
	// What ends is still there.
	full := crowdedBook(200)
	full.Copies[199].Ending = false
	wantApplied(t, "full, and one ends", full, impl.StewAct{Service: "x", Seen: 1, Create: 1, Ends: []impl.StewEnd{{Number: 7, Seen: 1}}}, 7)
}

func TestTheLastNumbers(t *testing.T) {
	for _, c := range []struct{ next, create, code int }{
		{impl.StewMaxNumber, 0, 0}, {impl.StewMaxNumber, 1, 7}, {impl.StewMaxNumber - 1, 1, 0}, {impl.StewMaxNumber - 1, 2, 7},
		{impl.StewMaxNumber - 20, 20, 0}, {impl.StewMaxNumber - 19, 20, 7},
	} {
		b := stewServices("web")
		b.Services[0].Want, b.Services[0].Over, b.Services[0].Next = 10, 10, c.next
		wantApplied(t, "Next "+count(c.next), b, impl.StewAct{Service: "web", Seen: 1, Create: c.create}, c.code)
	}
	void := impl.StewAct{Service: "void", Seen: 52, Drop: true}
	for _, a := range []impl.StewAct{webCreate(1), webCreate(0), webScale(3, 0), webEnds(2), void} {
		b := fleetBook()
		b.Now = impl.StewMaxNumber
		wantApplied(t, "the last Now", b, a, 7)
		b.Now--
		wantApplied(t, "one less", b, a, 0)
	}
}

// All at once: one version, which the service, what ends and what is new get.
func TestAnActOfAll(t *testing.T) {
	a := webScale(4, 3)
	a.Ends, a.Create = seenEnds(1, 5), 4
	got := wantApplied(t, "all", fleetBook(), a, 0)
	want := fleetBook()
	want.Now = 61
	s := &want.Services[fleetWeb]
	s.Version, s.Want, s.Cool, s.Next = 61, 4, 3, 13
	for _, i := range []int{0, 3} {
		want.Copies[fleetWebFirst+i].Ending, want.Copies[fleetWebFirst+i].Version = true, 61
	}
	for number := 9; number <= 12; number++ {
		want.Copies = slices.Insert(want.Copies, fleetWebFirst+6+number-9, impl.StewCopy{Service: "web", Number: number, Version: 61, Image: 2, State: impl.StewWaiting})
	}
	if !sameStewBook(got, want) {
		t.Errorf("%s,\nnot %s", stewTold(got), stewTold(want))
	}
	a.Create = 5
	wantApplied(t, "one more", fleetBook(), a, 6)
}

func TestActsInAWrongBook(t *testing.T) {
	for what, b := range wrongStewBooks() {
		for _, a := range []impl.StewAct{
			{}, {Service: "web", Seen: 12, Create: 1}, {Service: "api", Seen: 40}, {Service: "db", Seen: 7, Drop: true}, {Service: "none"},
			{Service: "web", Create: -1}, {Service: "n100", Seen: 1}, {Service: "web_", Seen: 1},
		} {
			wantApplied(t, what, b, a, 1)
		}
	}
}
