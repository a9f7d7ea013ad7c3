package tests

import (
	"testing"

	"loop.example/wharfhall/impl"
)

func TestCountsOfThePort(t *testing.T) {
	b := portBook()
	wantCount(t, "the port", b, "api", impl.StewCount{Live: 2, Ready: 1, Old: 1, Ending: 1})
	wantCount(t, "the port", b, "db", impl.StewCount{Live: 1, Ready: 1})
	wantCount(t, "the port", b, "web", impl.StewCount{Live: 2, Ready: 1, Old: 1})
}

// A name that is a berth's, a part of a service's, or no name at all, is no service's.
func TestCountsOfNoService(t *testing.T) {
	b := portBook()
	for _, name := range []string{"", "ap", "apii", "north", "quay", "WEB", "web ", "we", "webs", "a", "zz", "é", "\x00", long(500)} {
		wantCount(t, "no service", b, name, impl.StewCount{})
		wantCount(t, "nothing", impl.StewBook{}, name, impl.StewCount{})
	}
	wantCount(t, "no copy", stewServices("web"), "web", impl.StewCount{})
}

func TestNothingIsCountedInAWrongBook(t *testing.T) {
	for what, b := range wrongStewBooks() {
		for _, name := range []string{"api", "db", "web", "web_", "n100", ""} {
			wantCount(t, what, b, name, impl.StewCount{})
		}
	}
}

// mixedBook has of web one copy of each State, Ending and not, of its Image, of the one before it and of the one
// behind it; around them are copies of services with names much like it.
func mixedBook() impl.StewBook {
	b := stewServices("we", "web", "web-2")
	b.Berths = portBook().Berths
	for i := range b.Services {
		b.Services[i].Next, b.Services[i].Image = 100, 5
	}
	for number := 1; number <= 9; number++ {
		b.Copies = append(b.Copies, waitingCopy("we", number))
	}
	number := 0
	for state := impl.StewWaiting; state <= impl.StewFailed; state++ {
		for _, ending := range []bool{true, false} {
			for _, image := range []int{4, 5, 6} {
				number++
				c := impl.StewCopy{Service: "web", Number: number, Version: 1, Image: image, State: state, Ending: ending}
				if state != impl.StewWaiting {
					c.Berth = "quay"
				}
				b.Copies = append(b.Copies, c)
			}
		}
	}
	for number := 1; number <= 4; number++ {
		b.Copies = append(b.Copies, impl.StewCopy{Service: "web-2", Number: number, Version: 1, Image: 5, State: impl.StewReady, Ending: number > 3, Berth: "api"})
	}
	return b
}

func TestCountsOfAllSorts(t *testing.T) {
	b := mixedBook()
	wantCount(t, "all sorts", b, "we", impl.StewCount{Live: 9, Old: 9})
	wantCount(t, "all sorts", b, "web", impl.StewCount{Live: 12, Ready: 3, Old: 8, Failed: 3, Ending: 12})
	wantCount(t, "all sorts", b, "web-2", impl.StewCount{Live: 3, Ready: 3, Ending: 1})
}

// Each copy alone counts for what it is: one that is Ending for that alone.
func TestCountsOfOneCopy(t *testing.T) {
	b := mixedBook()
	all := b.Copies
	for _, c := range all {
		b.Copies = []impl.StewCopy{c}
		want := impl.StewCount{Ending: 1}
		if !c.Ending {
			want = impl.StewCount{Live: 1}
			if c.State == 3 {
				want.Ready = 1
			}
			if c.State == 4 {
				want.Failed = 1
			}
			if c.Image != 5 {
				want.Old = 1
			}
		}
		for _, s := range b.Services {
			if s.Name == c.Service {
				wantCount(t, "one copy", b, s.Name, want)
			} else {
				wantCount(t, "another's copy", b, s.Name, impl.StewCount{})
			}
		}
	}
}

// A service's Want, whether it is Gone, and where its copies stand change no count; its Image does.
func TestWhatCountsHangOn(t *testing.T) {
	want := impl.StewCount{Live: 12, Ready: 3, Old: 8, Failed: 3, Ending: 12}
	for what, turn := range map[string]func(s *impl.StewService){
		"Gone":  func(s *impl.StewService) { s.Gone = true },
		"Want":  func(s *impl.StewService) { s.Want = 10 },
		"Over":  func(s *impl.StewService) { s.Over = 10 },
		"Per":   func(s *impl.StewService) { s.Per, s.Most, s.Load, s.Cool = 3, 4, 5, 1 },
		"Image": func(s *impl.StewService) { s.Image = 6 },
	} {
		b := mixedBook()
		turn(&b.Services[1])
		wantCount(t, what, b, "web", want)
	}
	b := mixedBook()
	b.Services[1].Image = 7
	want.Old = 12
	wantCount(t, "an Image that none has", b, "web", want)
	for i := range b.Copies {
		if b.Copies[i].Service == "web" {
			b.Copies[i].Image = 7
		}
	}
	want.Old = 0
	wantCount(t, "an Image that all have", b, "web", want)
	for i := range b.Berths {
		b.Berths[i].Drain = !b.Berths[i].Drain
	}
	wantCount(t, "other berths to be drained", b, "web", want)
}

func TestCountsOfAFullBook(t *testing.T) {
	b := manyCopies(impl.StewMaxCopies)
	wantCount(t, "full", b, "web", impl.StewCount{Live: impl.StewMaxCopies})
	for i := range b.Copies {
		b.Copies[i].Ending = i%4 == 0
	}
	wantCount(t, "full", b, "web", impl.StewCount{Live: 150, Ending: 50})
	wantCount(t, "full", b, "we", impl.StewCount{})
	wantCount(t, "one too many", manyCopies(impl.StewMaxCopies+1), "web", impl.StewCount{})
}
