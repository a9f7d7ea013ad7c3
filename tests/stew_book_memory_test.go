package tests

import (
	"maps"
	"testing"

	"loop.example/wharfhall/impl"
)

func stewMemoryBooks() map[string]impl.StewBook {
	books := wrongStewBooks()
	maps.Copy(books, map[string]impl.StewBook{
		"nothing": {}, "the port": portBook(), "all sorts": mixedBook(), "full": manyCopies(impl.StewMaxCopies),
		"services": stewServices(names(impl.StewMaxServices)...), "berths": stewBerths(names(impl.StewMaxBerths)...),
	})
	return books
}

func TestNoStewBookIsWrittenInto(t *testing.T) {
	for what, book := range stewMemoryBooks() {
		b := withRoom(book)
		before := opened(b)
		impl.StewValid(b)
		for _, name := range []string{"api", "web", "n100", "none", ""} {
			impl.StewCountOf(b, name)
		}
		wantUntouched(t, what, b, before)
	}
}

// What lies behind the end of a list is not looked at, whether it fits there or not.
func TestWhatIsBehindTheEndOfAList(t *testing.T) {
	for what, book := range stewMemoryBooks() {
		b := withRoom(book)
		if impl.StewValid(b) != impl.StewValid(book) {
			t.Errorf("%s: with room behind its lists the book is another one", what)
		}
	}
	b := manyCopies(6)
	b.Copies = b.Copies[:4]
	wantCount(t, "copies behind the end", b, "web", impl.StewCount{Live: 4})
	b = stewServices("a", "b")
	b.Services = b.Services[:1]
	b.Copies = []impl.StewCopy{waitingCopy("b", 1)}
	b.Services[:2][1].Next = 9
	wantValid(t, "a service behind the end", b, false)
	b = portBook()
	b.Berths = b.Berths[:2]
	wantValid(t, "a berth behind the end", b, false)
}

// The same call gives the same answer again, whatever was asked between, and though the book is turned between.
func TestCallsOfStewBooksKeepNothing(t *testing.T) {
	b := portBook()
	for range 3 {
		wantValid(t, "as it is", b, true)
		wantCount(t, "as it is", b, "web", impl.StewCount{Live: 2, Ready: 1, Old: 1})
		b.Copies[5].Ending = true
		wantCount(t, "turned", b, "web", impl.StewCount{Live: 1, Ready: 1, Old: 1, Ending: 1})
		b.Services[webPlace].Name = "WEB"
		wantValid(t, "turned", b, false)
		wantCount(t, "turned", b, "web", impl.StewCount{})
		b = portBook()
	}
}
