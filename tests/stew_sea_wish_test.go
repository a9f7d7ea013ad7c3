package tests

import (
	"slices"
	"testing"

	"loop.example/wharfhall/impl"
)

// fieldTurn turns a field of a service.
type fieldTurn struct {
	what string
	turn func(s *impl.StewService)
}

// wishedFields are each turned alone in a wish for web, as the fleet's book has it.
func wishedFields() []fieldTurn {
	return []fieldTurn{
		{"nothing", func(s *impl.StewService) {}},
		{"Gone", func(s *impl.StewService) { s.Gone = true }},
		{"Image", func(s *impl.StewService) { s.Image = 8 }},
		{"Want", func(s *impl.StewService) { s.Want = 9 }},
		{"Down", func(s *impl.StewService) { s.Down = 4 }},
		{"Over", func(s *impl.StewService) { s.Over = 5 }},
		{"Per", func(s *impl.StewService) { s.Per = 77 }},
		{"Least", func(s *impl.StewService) { s.Least = 2 }},
		{"Most", func(s *impl.StewService) { s.Most = 7 }},
		{"Load", func(s *impl.StewService) { s.Load = 251 }},
		{"no load to follow", func(s *impl.StewService) { s.Per, s.Least, s.Most, s.Load = 0, 0, 0, 0 }},
	}
}

func TestAWishForWhatIsThere(t *testing.T) {
	for _, f := range wishedFields() {
		b := fleetBook()
		wish := b.Services[fleetWeb]
		f.turn(&wish)
		got := wantSea(t, f.what, b, wishOf(wish), 0)
		want := wish
		want.Version, want.Next, want.Cool = 61, 9, 0
		if got.Services[fleetWeb] != want {
			t.Errorf("%s: %+v, not %+v", f.what, got.Services[fleetWeb], want)
		}
		b.Now, b.Services[fleetWeb] = 61, want
		if !sameStewBook(got, b) {
			t.Errorf("%s: more than the service changed: %s", f.what, stewTold(got))
		}
	}
}

// A wish says neither which version a service has, nor which number its next copy, nor for how long less was asked for.
func TestWhatAWishDoesNotSay(t *testing.T) {
	for _, n := range []int{-1 << 62, -1, 0, 1, 2, 3, 4, 9, 10, 60, 61, 62, impl.StewMaxNumber, impl.StewMaxNumber + 1, 1<<62 - 1} {
		for _, name := range []string{"web", "api", "new"} {
			for _, f := range []fieldTurn{
				{"Version", func(s *impl.StewService) { s.Version = n }},
				{"Next", func(s *impl.StewService) { s.Next = n }},
				{"Cool", func(s *impl.StewService) { s.Cool = n }},
				{"all three", func(s *impl.StewService) { s.Version, s.Next, s.Cool = n, n, n }},
			} {
				wish := impl.StewService{Name: name, Image: 7, Want: 1, Down: 2}
				plain := wantSea(t, "nothing said", fleetBook(), wishOf(wish), 0)
				f.turn(&wish)
				if got := wantSea(t, f.what, fleetBook(), wishOf(wish), 0); !sameStewBook(got, plain) {
					t.Errorf("%s of %d for %s made a difference: %s", f.what, n, name, stewTold(got))
				}
			}
		}
	}
}

func TestAWishForWhatIsNew(t *testing.T) {
	for name, place := range map[string]int{"0": 0, "ap": 0, "api-": 1, "b": 1, "vo": 2, "w": 3, "web-": 4, "web-1": 4, "web-20": 5, "zz": 5, long(20): -1} {
		wish := impl.StewService{Name: name, Image: 7, Want: 4, Over: 2, Per: 5, Least: 1, Most: 4, Load: 9}
		got := wantSea(t, name, fleetBook(), wishOf(wish), 0)
		at := slices.IndexFunc(got.Services, func(s impl.StewService) bool { return s.Name == name })
		wish.Version, wish.Next = 61, 1
		if len(got.Services) != 6 || got.Services[at] != wish || place >= 0 && at != place {
			t.Errorf("%q came to the place %d: %s", name, at, stewTold(got))
		}
		got.Services = slices.Delete(got.Services, at, at+1)
		if got.Now = 60; !sameStewBook(got, fleetBook()) {
			t.Errorf("%q: more than the service is new: %s", name, stewTold(got))
		}
	}
	got := wantSea(t, "the first", impl.StewBook{}, wishOf(plainService("web")), 0)
	if want := stewServices("web"); !sameStewBook(got, want) {
		t.Error(stewTold(got))
	}
	gone := plainService("web")
	gone.Gone = true
	if got := wantSea(t, "Gone from the beginning", impl.StewBook{}, wishOf(gone), 0); got.Services[0] != gone {
		t.Error(stewTold(got))
	}
}

func TestWishesForAllThatMayBe(t *testing.T) {
	all := names(impl.StewMaxServices + 1)
	wantSea(t, "one less", stewServices(all[1:impl.StewMaxServices]...), wishOf(plainService(all[0])), 0)
	wantSea(t, "the last", stewServices(all[:impl.StewMaxServices-1]...), wishOf(plainService(all[impl.StewMaxServices-1])), 0)
	full := stewServices(all[:impl.StewMaxServices]...)
	wantSea(t, "one more, behind", full, wishOf(plainService(all[impl.StewMaxServices])), 2)
	wantSea(t, "one more, ahead", full, wishOf(plainService("0")), 2)
	for _, s := range full.Services {
		wantSea(t, "one of them", full, wishOf(s), 0)
	}
}

// wishBound is a field of a wish with the least and the most that it may be.
type wishBound struct {
	what        string
	field       func(s *impl.StewService) *int
	least, most int
}

func TestWishesAtTheirBounds(t *testing.T) {
	bounds := []wishBound{
		{"Image", func(s *impl.StewService) *int { return &s.Image }, 1, impl.StewMaxNumber},
		{"Want", func(s *impl.StewService) *int { return &s.Want }, 0, impl.StewMaxWant},
		{"Down", func(s *impl.StewService) *int { return &s.Down }, 0, impl.StewMaxSpare},
		{"Over", func(s *impl.StewService) *int { return &s.Over }, 0, impl.StewMaxSpare},
		{"Per", func(s *impl.StewService) *int { return &s.Per }, 1, impl.StewMaxLoad},
		{"Load", func(s *impl.StewService) *int { return &s.Load }, 0, impl.StewMaxLoad},
		{"Least", func(s *impl.StewService) *int { return &s.Least }, 0, 6},
		{"Most", func(s *impl.StewService) *int { return &s.Most }, 1, impl.StewMaxWant},
	}
	for _, bound := range bounds {
		for _, name := range []string{"web", "new"} {
			for n, code := range map[int]int{bound.least - 1: 2, bound.least: 0, bound.least + 1: 0, bound.most - 1: 0, bound.most: 0, bound.most + 1: 2, -1 << 62: 2, 1<<62 - 1: 2} {
				wish := fleetBook().Services[fleetWeb]
				wish.Name = name
				*bound.field(&wish) = n
				wantSea(t, bound.what+" of "+count(n)+" for "+name, fleetBook(), wishOf(wish), code)
			}
		}
	}
}

func TestWishesThatAreWrong(t *testing.T) {
	for _, f := range []fieldTurn{
		{"neither down nor over", func(s *impl.StewService) { s.Down, s.Over = 0, 0 }},
		{"Least with a Per of 0", func(s *impl.StewService) { s.Per, s.Most, s.Load, s.Least = 0, 0, 0, 1 }},
		{"Least and Most with a Per of 0", func(s *impl.StewService) { s.Per, s.Load = 0, 0 }},
		{"Most with a Per of 0", func(s *impl.StewService) { s.Per, s.Least, s.Load = 0, 0, 0 }},
		{"Load with a Per of 0", func(s *impl.StewService) { s.Per, s.Least, s.Most = 0, 0, 0 }},
		{"Least above Most", func(s *impl.StewService) { s.Least, s.Most = 3, 2 }},
		{"all 0", func(s *impl.StewService) { *s = impl.StewService{Name: s.Name} }},
	} {
		for _, name := range []string{"web", "new"} {
			wish := fleetBook().Services[fleetWeb]
			wish.Name = name
			f.turn(&wish)
			wantSea(t, f.what+" for "+name, fleetBook(), wishOf(wish), 2)
		}
	}
	for _, name := range []string{"", "Web", "we b", "web_", "wéb", "web\x00", "\xff", long(21), long(4000)} {
		wantSea(t, name, fleetBook(), wishOf(plainService(name)), 2)
	}
}

// A Want outside Least..Most is the scaler's to mend; and a wish for one that is Gone brings it back.
func TestWishesThatAreRight(t *testing.T) {
	wish := fleetBook().Services[fleetWeb]
	wish.Want = 10
	wantSea(t, "Want above Most", fleetBook(), wishOf(wish), 0)
	wish.Want = 0
	wantSea(t, "Want below Least", fleetBook(), wishOf(wish), 0)
	back := fleetBook().Services[1]
	back.Gone = false
	got := wantSea(t, "back again", fleetBook(), wishOf(back), 0)
	if s := got.Services[1]; s.Gone || s.Next != 6 {
		t.Errorf("%+v", s)
	}
	if n := impl.StewCountOf(got, "old"); n != (impl.StewCount{Live: 2, Ready: 2, Ending: 1}) {
		t.Errorf("%+v", n)
	}
	newer := fleetBook().Services[fleetWeb]
	newer.Image = 3
	got = wantSea(t, "a new image", fleetBook(), wishOf(newer), 0)
	if n := impl.StewCountOf(got, "web"); n.Old != n.Live {
		t.Errorf("%+v", n)
	}
}

// A service whose Next is at its end keeps it.
func TestAWishAtTheEndOfNext(t *testing.T) {
	b := turnedFleet(func(s *impl.StewService) { s.Next = impl.StewMaxNumber })
	wish := b.Services[fleetWeb]
	wish.Next = 1
	if got := wantSea(t, "the last Next", b, wishOf(wish), 0); got.Services[fleetWeb].Next != impl.StewMaxNumber {
		t.Error(stewTold(got))
	}
}
