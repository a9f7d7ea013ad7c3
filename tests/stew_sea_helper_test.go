package tests

import (
	"cmp"
	"fmt"
	"slices"
	"strings"
	"testing"

	"loop.example/wharfhall/impl"
)

// The kinds of events, from the first to the last.
const (
	firstEvent = impl.StewTick
	lastEvent  = impl.StewLoad
)

// dockBook is a valid book with one service, whose copies are told by words, with the Numbers from 1 on: W waits, S
// starts, R is ready, F failed; e is Ending; the berth is behind the colon. Of the berths those with ! are to be drained.
func dockBook(berths, copies string) impl.StewBook {
	b := impl.StewBook{Now: 500}
	for _, word := range strings.Fields(berths) {
		name, drained := strings.CutSuffix(word, "!")
		b.Berths = append(b.Berths, impl.StewBerth{Name: name, Drain: drained})
	}
	words := strings.Fields(copies)
	b.Services = []impl.StewService{{Name: "web", Version: 9, Image: 2, Want: 3, Down: 1, Over: 1, Next: len(words) + 1}}
	for i, word := range words {
		state, berth, _ := strings.Cut(word, ":")
		b.Copies = append(b.Copies, impl.StewCopy{Service: "web", Number: i + 1, Version: 11 + i, Image: 2,
			State: 1 + strings.IndexByte("WSRF", state[0]), Ending: strings.Contains(state, "e"), Berth: berth})
	}
	return b
}

// dockTold writes the copies of a book as dockBook reads them, with their Numbers ahead; those that the last change of
// the book changed have a mark behind.
func dockTold(b impl.StewBook) string {
	var out []string
	for _, c := range b.Copies {
		told := count(c.Number) + "WSRF"[c.State-1:c.State]
		if c.Ending {
			told += "e"
		}
		if c.Berth != "" {
			told += ":" + c.Berth
		}
		if c.Version == b.Now {
			told += "'"
		}
		out = append(out, told)
	}
	return strings.Join(out, " ")
}

func tickOf() impl.StewEvent {
	return impl.StewEvent{Kind: impl.StewTick}
}

func wishOf(s impl.StewService) impl.StewEvent {
	return impl.StewEvent{Kind: impl.StewWish, Service: s}
}

func failOf(service string, number int) impl.StewEvent {
	return impl.StewEvent{Kind: impl.StewFails, Name: service, Number: number}
}

func sinkOf(berth string) impl.StewEvent {
	return impl.StewEvent{Kind: impl.StewSink, Name: berth}
}

func raiseOf(berth string, drained bool) impl.StewEvent {
	return impl.StewEvent{Kind: impl.StewRaise, Name: berth, Flag: drained}
}

func loadOf(service string, load int) impl.StewEvent {
	return impl.StewEvent{Kind: impl.StewLoad, Name: service, Number: load}
}

func eventTold(e impl.StewEvent) string {
	return fmt.Sprintf("%.400q", fmt.Sprintf("%+v", e))
}

// seaTickByHand is what chapter 17 says of a tick, step by step; the berths are counted anew for each copy.
func seaTickByHand(b *impl.StewBook) {
	b.Copies = slices.DeleteFunc(b.Copies, func(c impl.StewCopy) bool { return c.Ending })
	for i, c := range b.Copies {
		if c.State == 2 {
			b.Copies[i].State, b.Copies[i].Version = 3, b.Now
		}
	}
	for i, c := range b.Copies {
		if c.State != 1 {
			continue
		}
		name, least := "", 1000
		for _, berth := range b.Berths {
			stand := 0
			for _, other := range b.Copies {
				if other.Berth == berth.Name {
					stand++
				}
			}
			if !berth.Drain && stand < least {
				name, least = berth.Name, stand
			}
		}
		if name != "" {
			b.Copies[i].State, b.Copies[i].Berth, b.Copies[i].Version = 2, name, b.Now
		}
	}
}

func wishByHand(b *impl.StewBook, w impl.StewService) int {
	if at := stewPlaceByHand(*b, w.Name); at >= 0 {
		s := &b.Services[at]
		s.Gone, s.Image, s.Want, s.Down, s.Over = w.Gone, w.Image, w.Want, w.Down, w.Over
		s.Per, s.Least, s.Most, s.Load, s.Cool, s.Version = w.Per, w.Least, w.Most, w.Load, 0, b.Now
	} else {
		w.Version, w.Next, w.Cool = b.Now, 1, 0
		b.Services = append(b.Services, w)
		slices.SortFunc(b.Services, func(x, y impl.StewService) int { return cmp.Compare(x.Name, y.Name) })
	}
	return wrongByHand(*b)
}

func wrongByHand(b impl.StewBook) int {
	if !validByHand(b) {
		return 2
	}
	return 0
}

func failByHand(b *impl.StewBook, service string, number int) int {
	at := copyPlaceByHand(*b, service, number)
	if at < 0 || b.Copies[at].State != 2 && b.Copies[at].State != 3 {
		return 3
	}
	b.Copies[at].State, b.Copies[at].Version = 4, b.Now
	return 0
}

func berthPlaceByHand(b impl.StewBook, name string) int {
	return slices.IndexFunc(b.Berths, func(berth impl.StewBerth) bool { return berth.Name == name })
}

func sinkByHand(b *impl.StewBook, name string) int {
	if berthPlaceByHand(*b, name) < 0 {
		return 3
	}
	b.Berths = slices.DeleteFunc(b.Berths, func(berth impl.StewBerth) bool { return berth.Name == name })
	b.Copies = slices.DeleteFunc(b.Copies, func(c impl.StewCopy) bool { return c.Berth == name })
	return 0
}

func raiseByHand(b *impl.StewBook, name string, drained bool) int {
	if at := berthPlaceByHand(*b, name); at >= 0 {
		b.Berths[at].Drain = drained
	} else {
		b.Berths = append(b.Berths, impl.StewBerth{Name: name, Drain: drained})
		slices.SortFunc(b.Berths, func(x, y impl.StewBerth) int { return cmp.Compare(x.Name, y.Name) })
	}
	return wrongByHand(*b)
}

func loadByHand(b *impl.StewBook, service string, load int) int {
	at := stewPlaceByHand(*b, service)
	if at < 0 || b.Services[at].Per == 0 {
		return 3
	}
	b.Services[at].Load, b.Services[at].Version = load, b.Now
	return wrongByHand(*b)
}

// seaByHand is what chapter 17 says.
func seaByHand(b impl.StewBook, e impl.StewEvent) (impl.StewBook, int) {
	if !validByHand(b) {
		return impl.StewBook{}, 1
	}
	if e.Kind < 1 || e.Kind > 6 {
		return b, 4
	}
	if b.Now == 1000000 {
		return b, 7
	}
	out, code := stewCopyBook(b), 0
	out.Now++
	switch e.Kind {
	case 1:
		seaTickByHand(&out)
	case 2:
		code = wishByHand(&out, e.Service)
	case 3:
		code = failByHand(&out, e.Name, e.Number)
	case 4:
		code = sinkByHand(&out, e.Name)
	case 5:
		code = raiseByHand(&out, e.Name, e.Flag)
	case 6:
		code = loadByHand(&out, e.Name, e.Number)
	}
	if code != 0 {
		return b, code
	}
	return out, 0
}

// wantSea asks for the code, for the book that the document's words lead to beside it, and for promise 14.
func wantSea(t *testing.T, what string, b impl.StewBook, e impl.StewEvent, code int) impl.StewBook {
	t.Helper()
	want, worded := seaByHand(b, e)
	if worded != code {
		t.Fatalf("%s: by the document's words %s of %s has the code %d, not %d", what, eventTold(e), stewTold(b), worded, code)
	}
	got, told := impl.StewSea(b, e)
	if told != code || !sameStewBook(got, want) {
		t.Errorf("%s: StewSea of %s in %s = %s, %d,\nnot %s, %d", what, eventTold(e), stewTold(b), stewTold(got), told, stewTold(want), code)
	}
	wantKeptOrNext(t, what, b, got, told)
	wantVersions(t, what, b, got)
	return got
}

// wantVersions asks that all that is not as it was has the version of the last change.
func wantVersions(t *testing.T, what string, b, got impl.StewBook) {
	t.Helper()
	for _, s := range got.Services {
		if s.Version != got.Now && !slices.Contains(b.Services, s) {
			t.Errorf("%s: %+v is new in %s, with another Version", what, s, stewTold(got))
		}
	}
	for _, c := range got.Copies {
		if c.Version != got.Now && !slices.Contains(b.Copies, c) {
			t.Errorf("%s: %+v is new in %s, with another Version", what, c, stewTold(got))
		}
	}
}
