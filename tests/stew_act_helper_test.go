package tests

import (
	"cmp"
	"fmt"
	"slices"
	"testing"

	"loop.example/wharfhall/impl"
)

// webVersion is the version of web in the fleet's book; that of its copies is their Number and 10.
const webVersion = 53

// The places of web, of its copies, and of the service that is Gone without copies, in the fleet's book.
const (
	fleetVoid     = 2
	fleetWeb      = 3
	fleetWebFirst = 5
)

// fleetBook is a valid book. Of web 5 copies are Live, 3 of them ready: one of these may end, and one copy may be
// created. Around it stand the copies of others. Every call gives new memory.
func fleetBook() impl.StewBook {
	return impl.StewBook{Now: 60,
		Services: []impl.StewService{
			{Name: "api", Version: 50, Image: 4, Want: 1, Down: 1, Next: 3},
			{Name: "old", Version: 51, Gone: true, Image: 1, Want: 2, Over: 1, Next: 6},
			{Name: "void", Version: 52, Gone: true, Image: 1, Want: 1, Over: 1, Next: 4},
			{Name: "web", Version: webVersion, Image: 2, Want: 3, Down: 1, Over: 3, Next: 9, Per: 100, Least: 1, Most: 6, Load: 250, Cool: 2},
			{Name: "web-2", Version: 54, Image: 2, Want: 2, Over: 1, Next: 3},
		},
		Copies: []impl.StewCopy{
			{Service: "api", Number: 1, Version: 20, Image: 4, State: impl.StewReady, Berth: "a"},
			{Service: "api", Number: 2, Version: 21, Image: 4, State: impl.StewWaiting},
			{Service: "old", Number: 2, Version: 22, Image: 1, State: impl.StewReady, Berth: "a"},
			{Service: "old", Number: 4, Version: 23, Image: 1, State: impl.StewStarting, Ending: true, Berth: "b"},
			{Service: "old", Number: 5, Version: 24, Image: 1, State: impl.StewReady, Berth: "b"},
			{Service: "web", Number: 1, Version: 11, Image: 2, State: impl.StewReady, Berth: "a"},
			{Service: "web", Number: 2, Version: 12, Image: 1, State: impl.StewReady, Berth: "b"},
			{Service: "web", Number: 4, Version: 14, Image: 2, State: impl.StewReady, Berth: "a"},
			{Service: "web", Number: 5, Version: 15, Image: 2, State: impl.StewStarting, Berth: "a"},
			{Service: "web", Number: 6, Version: 16, Image: 2, State: impl.StewFailed, Berth: "b"},
			{Service: "web", Number: 7, Version: 17, Image: 2, State: impl.StewReady, Ending: true, Berth: "a"},
			{Service: "web-2", Number: 1, Version: 25, Image: 2, State: impl.StewReady, Berth: "a"},
			{Service: "web-2", Number: 2, Version: 26, Image: 2, State: impl.StewReady, Berth: "b"},
		},
		Berths: []impl.StewBerth{{Name: "a"}, {Name: "b", Drain: true}},
	}
}

// turnedFleet is the fleet's book in which something of web is turned.
func turnedFleet(turn func(s *impl.StewService)) impl.StewBook {
	b := fleetBook()
	turn(&b.Services[fleetWeb])
	return b
}

// webAct is an act for web as the fleet's book has it.
func webAct(turn func(a *impl.StewAct)) impl.StewAct {
	a := impl.StewAct{Service: "web", Seen: webVersion}
	turn(&a)
	return a
}

func webCreate(n int) impl.StewAct {
	return webAct(func(a *impl.StewAct) { a.Create = n })
}

func webScale(want, cool int) impl.StewAct {
	return webAct(func(a *impl.StewAct) { a.Scale, a.Want, a.Cool = true, want, cool })
}

func webEnds(numbers ...int) impl.StewAct {
	return webAct(func(a *impl.StewAct) { a.Ends = seenEnds(numbers...) })
}

// seenEnds are copies of web as the fleet's book has them.
func seenEnds(numbers ...int) []impl.StewEnd {
	var ends []impl.StewEnd
	for _, n := range numbers {
		ends = append(ends, impl.StewEnd{Number: n, Seen: 10 + n})
	}
	return ends
}

// readyBook is a book with a service that wants, and lets be down, so many; its first copies are ready.
func readyBook(want, down, ready, others int) impl.StewBook {
	b := stewServices("web")
	b.Berths = []impl.StewBerth{{Name: "a"}}
	b.Services[0].Want, b.Services[0].Down, b.Services[0].Over, b.Services[0].Next = want, down, 1, ready+others+1
	for i := range ready + others {
		c := waitingCopy("web", i+1)
		if i < ready {
			c.State, c.Berth = impl.StewReady, "a"
		}
		b.Copies = append(b.Copies, c)
	}
	return b
}

func stewPlaceByHand(b impl.StewBook, service string) int {
	return slices.IndexFunc(b.Services, func(s impl.StewService) bool { return s.Name == service })
}

func copyPlaceByHand(b impl.StewBook, service string, number int) int {
	return slices.IndexFunc(b.Copies, func(c impl.StewCopy) bool { return c.Service == service && c.Number == number })
}

// mayEndByHand is what chapter 14 says.
func mayEndByHand(b impl.StewBook, service string, number int) bool {
	if !validByHand(b) || copyPlaceByHand(b, service, number) < 0 {
		return false
	}
	s, c := b.Services[stewPlaceByHand(b, service)], b.Copies[copyPlaceByHand(b, service, number)]
	others := 0
	for _, o := range b.Copies {
		if o.Service == service && o.Number != number && !o.Ending && o.State == 3 {
			others++
		}
	}
	return !c.Ending && (c.State != 3 || s.Gone || others >= s.Want-s.Down)
}

func actWrongByHand(a impl.StewAct) bool {
	wrong := a.Create < 0 || a.Create > 20 || len(a.Ends) > 200
	for i := 1; i < len(a.Ends); i++ {
		wrong = wrong || a.Ends[i-1].Number >= a.Ends[i].Number
	}
	if a.Scale {
		wrong = wrong || a.Want < 0 || a.Want > 10 || a.Cool < 0 || a.Cool > 3
	} else {
		wrong = wrong || a.Want != 0 || a.Cool != 0
	}
	return wrong || a.Drop && (a.Create != 0 || a.Scale || len(a.Ends) != 0)
}

// lateByHand is the code 3 or 4 of an act for a service at a place, or 0.
func lateByHand(b impl.StewBook, at int, a impl.StewAct) int {
	code := 0
	if b.Services[at].Version != a.Seen {
		code = 4
	}
	for _, e := range a.Ends {
		place := copyPlaceByHand(b, a.Service, e.Number)
		if place < 0 {
			return 3
		}
		if b.Copies[place].Version != e.Seen {
			code = 4
		}
	}
	return code
}

func unfitByHand(s impl.StewService, want, live, all int, a impl.StewAct) bool {
	return a.Drop && (!s.Gone || all > 0) ||
		a.Create > 0 && (s.Gone || live+a.Create > want+s.Over) ||
		a.Scale && (s.Per == 0 || a.Want < s.Least || a.Want > s.Most)
}

// applyByHand is what chapter 15 says.
func applyByHand(b impl.StewBook, a impl.StewAct) (impl.StewBook, int) {
	if !validByHand(b) {
		return impl.StewBook{}, 1
	}
	if actWrongByHand(a) {
		return b, 2
	}
	at := stewPlaceByHand(b, a.Service)
	if at < 0 {
		return b, 3
	}
	if code := lateByHand(b, at, a); code != 0 {
		return b, code
	}
	out := stewCopyBook(b)
	s := &out.Services[at]
	for _, e := range a.Ends {
		if !mayEndByHand(out, a.Service, e.Number) {
			return b, 5
		}
		out.Copies[copyPlaceByHand(out, a.Service, e.Number)].Ending = true
	}
	if a.Scale {
		s.Want, s.Cool = a.Want, a.Cool
	}
	n := countByHand(out, *s)
	if unfitByHand(b.Services[at], s.Want, n.Live, n.Live+n.Ending, a) {
		return b, 6
	}
	if len(b.Copies)+a.Create > 200 || s.Next+a.Create > 1000000 || b.Now == 1000000 {
		return b, 7
	}
	return versionedByHand(out, at, a), 0
}

// versionedByHand is what is left to do once nothing stands against an act any more.
func versionedByHand(out impl.StewBook, at int, a impl.StewAct) impl.StewBook {
	out.Now++
	s := &out.Services[at]
	s.Version = out.Now
	for _, e := range a.Ends {
		out.Copies[copyPlaceByHand(out, a.Service, e.Number)].Version = out.Now
	}
	for i := range a.Create {
		out.Copies = append(out.Copies, impl.StewCopy{Service: a.Service, Number: s.Next + i, Version: out.Now, Image: s.Image, State: 1})
	}
	s.Next += a.Create
	slices.SortFunc(out.Copies, func(x, y impl.StewCopy) int {
		return cmp.Or(cmp.Compare(x.Service, y.Service), x.Number-y.Number)
	})
	if a.Drop {
		out.Services = slices.Delete(out.Services, at, at+1)
	}
	return out
}

func actTold(a impl.StewAct) string {
	return fmt.Sprintf("%.400q", fmt.Sprintf("%+v", a))
}

func wantMayEnd(t *testing.T, what string, b impl.StewBook, service string, number int, want bool) {
	t.Helper()
	if got := impl.StewMayEnd(b, service, number); got != want {
		t.Errorf("%s: StewMayEnd of %q %d in %s = %v", what, service, number, stewTold(b), got)
	}
}

// wantApplied asks for the code, and for the book that the document's words lead to beside it.
func wantApplied(t *testing.T, what string, b impl.StewBook, a impl.StewAct, code int) impl.StewBook {
	t.Helper()
	want, worded := applyByHand(b, a)
	if worded != code {
		t.Fatalf("%s: by the document's words %s of %s has the code %d, not %d", what, actTold(a), stewTold(b), worded, code)
	}
	got, told := impl.StewApply(b, a)
	if told != code || !sameStewBook(got, want) {
		t.Errorf("%s: StewApply of %s to %s = %s, %d,\nnot %s, %d", what, actTold(a), stewTold(b), stewTold(got), told, stewTold(want), code)
	}
	wantKeptOrNext(t, what, b, got, told)
	return got
}

// wantKeptOrNext is what promise 14 says of an act.
func wantKeptOrNext(t *testing.T, what string, b, got impl.StewBook, code int) {
	t.Helper()
	switch {
	case code == 0 && (got.Now != b.Now+1 || !impl.StewValid(got)):
		t.Errorf("%s: behind %s is %s", what, stewTold(b), stewTold(got))
	case code == 1 && !sameStewBook(got, impl.StewBook{}):
		t.Errorf("%s: code 1 with %s", what, stewTold(got))
	case code > 1 && !sameStewBook(got, b):
		t.Errorf("%s: code %d, and %s became %s", what, code, stewTold(b), stewTold(got))
	}
}
