package tests

import (
	"fmt"
	"slices"
	"testing"

	"loop.example/wharfhall/impl"
)

// The places of what the port's book has.
const (
	apiPlace = 0
	dbPlace  = 1
	webPlace = 2
)

// portBook is a valid book: api follows no load, db is Gone, web follows its
// load and has, by then, a Want above its Most. Every call gives new memory.
func portBook() impl.StewBook {
	return impl.StewBook{Now: 40,
		Services: []impl.StewService{
			{Name: "api", Version: 40, Image: 3, Want: 4, Down: 1, Next: 9},
			{Name: "db", Version: 7, Gone: true, Image: 1, Want: 1, Over: 1, Next: 4},
			{Name: "web", Version: 12, Image: 2, Want: 7, Down: 2, Over: 3, Next: 21, Per: 100, Least: 1, Most: 6, Load: 250, Cool: 2},
		},
		Copies: []impl.StewCopy{
			{Service: "api", Number: 2, Version: 8, Image: 3, State: impl.StewReady, Berth: "north"},
			{Service: "api", Number: 5, Version: 40, Image: 2, State: impl.StewStarting, Berth: "quay"},
			{Service: "api", Number: 8, Version: 1, Image: 3, State: impl.StewFailed, Ending: true, Berth: "north"},
			{Service: "db", Number: 3, Version: 9, Image: 1, State: impl.StewReady, Berth: "api"},
			{Service: "web", Number: 1, Version: 13, Image: 1, State: impl.StewReady, Berth: "quay"},
			{Service: "web", Number: 20, Version: 14, Image: 2, State: impl.StewWaiting},
		},
		Berths: []impl.StewBerth{{Name: "api"}, {Name: "north"}, {Name: "quay", Drain: true}},
	}
}

// plainService is all that a book wants of a service, and no more.
func plainService(name string) impl.StewService {
	return impl.StewService{Name: name, Version: 1, Image: 1, Down: 1, Next: 1}
}

func waitingCopy(service string, number int) impl.StewCopy {
	return impl.StewCopy{Service: service, Number: number, Version: 1, Image: 1, State: impl.StewWaiting}
}

func stewServices(names ...string) impl.StewBook {
	b := impl.StewBook{Now: 1}
	for _, name := range names {
		b.Services = append(b.Services, plainService(name))
	}
	return b
}

func stewBerths(names ...string) impl.StewBook {
	var b impl.StewBook
	for _, name := range names {
		b.Berths = append(b.Berths, impl.StewBerth{Name: name})
	}
	return b
}

// manyCopies is a book with n copies of one service.
func manyCopies(n int) impl.StewBook {
	b := stewServices("web")
	b.Services[0].Next = n + 1
	for i := range n {
		b.Copies = append(b.Copies, waitingCopy("web", i+1))
	}
	return b
}

// turnedPort is the port's book in which something is turned.
func turnedPort(turn func(b *impl.StewBook)) impl.StewBook {
	b := portBook()
	turn(&b)
	return b
}

func stewCopyBook(b impl.StewBook) impl.StewBook {
	b.Services, b.Copies, b.Berths = slices.Clone(b.Services), slices.Clone(b.Copies), slices.Clone(b.Berths)
	return b
}

// sameStewBook holds a nil list and an empty one to be the same.
func sameStewBook(a, b impl.StewBook) bool {
	return a.Now == b.Now && slices.Equal(a.Services, b.Services) && slices.Equal(a.Copies, b.Copies) && slices.Equal(a.Berths, b.Berths)
}

// stewTold writes a book as far as somebody would read it.
func stewTold(b impl.StewBook) string {
	return fmt.Sprintf("%.900q", fmt.Sprintf("%+v", b))
}

// wantValid asks also that of a book that is not valid nothing is counted.
func wantValid(t *testing.T, what string, b impl.StewBook, want bool) {
	t.Helper()
	if got := impl.StewValid(b); got != want {
		t.Errorf("%s: StewValid of %s = %v", what, stewTold(b), got)
	}
	if want {
		return
	}
	for _, s := range b.Services {
		wantCount(t, what, b, s.Name, impl.StewCount{})
	}
	for _, name := range []string{"api", "db", "web", ""} {
		wantCount(t, what, b, name, impl.StewCount{})
	}
}

func wantCount(t *testing.T, what string, b impl.StewBook, service string, want impl.StewCount) {
	t.Helper()
	if got := impl.StewCountOf(b, service); got != want {
		t.Errorf("%s: StewCountOf %q in %s = %+v, not %+v", what, service, stewTold(b), got, want)
	}
}

// wrongStewBooks are books that are not valid, by what is wrong with them.
func wrongStewBooks() map[string]impl.StewBook {
	out := map[string]impl.StewBook{}
	for what, turn := range map[string]func(b *impl.StewBook){
		"Now below 0":            func(b *impl.StewBook) { *b = impl.StewBook{Now: -1} },
		"Now above all":          func(b *impl.StewBook) { b.Now = impl.StewMaxNumber + 1 },
		"Now before a service":   func(b *impl.StewBook) { b.Now = 39; b.Copies = nil },
		"Now before a copy":      func(b *impl.StewBook) { b.Now = 39; b.Services[apiPlace].Version = 39 },
		"a name that is none":    func(b *impl.StewBook) { b.Services = append(b.Services, plainService("web_")) },
		"no Image":               func(b *impl.StewBook) { b.Services[dbPlace].Image = 0 },
		"too much wanted":        func(b *impl.StewBook) { b.Services[dbPlace].Want = impl.StewMaxWant + 1 },
		"neither down nor over":  func(b *impl.StewBook) { b.Services[apiPlace].Down = 0 },
		"a Load without a Per":   func(b *impl.StewBook) { b.Services[webPlace].Per = 0 },
		"Least above Most":       func(b *impl.StewBook) { b.Services[webPlace].Least = 7 },
		"too cool":               func(b *impl.StewBook) { b.Services[webPlace].Cool = impl.StewCool + 1 },
		"Next is there":          func(b *impl.StewBook) { b.Services[dbPlace].Next = 3 },
		"services turned around": func(b *impl.StewBook) { b.Services[0], b.Services[1] = b.Services[1], b.Services[0] },
		"a service twice":        func(b *impl.StewBook) { b.Services = slices.Insert(b.Services, 1, b.Services[0]) },
		"a copy's service gone":  func(b *impl.StewBook) { b.Services = b.Services[1:] },
		"copies turned around":   func(b *impl.StewBook) { b.Copies[0], b.Copies[1] = b.Copies[1], b.Copies[0] },
		"copies' services too":   func(b *impl.StewBook) { b.Copies[2], b.Copies[3] = b.Copies[3], b.Copies[2] },
		"a copy twice":           func(b *impl.StewBook) { b.Copies = slices.Insert(b.Copies, 1, b.Copies[0]) },
		"no State":               func(b *impl.StewBook) { b.Copies[5].State = 0 },
		"ready without a berth":  func(b *impl.StewBook) { b.Copies[0].Berth = "" },
		"waiting on a berth":     func(b *impl.StewBook) { b.Copies[5].Berth = "north" },
		"a berth that is gone":   func(b *impl.StewBook) { b.Berths = b.Berths[1:] },
		"berths turned around":   func(b *impl.StewBook) { b.Berths[0], b.Berths[1] = b.Berths[1], b.Berths[0] },
		"a berth twice":          func(b *impl.StewBook) { b.Berths = slices.Insert(b.Berths, 1, b.Berths[0]) },
	} {
		out[what] = turnedPort(turn)
	}
	out["a service too many"] = stewServices(names(impl.StewMaxServices + 1)...)
	out["a copy too many"] = manyCopies(impl.StewMaxCopies + 1)
	out["a berth too many"] = stewBerths(names(impl.StewMaxBerths + 1)...)
	return out
}
