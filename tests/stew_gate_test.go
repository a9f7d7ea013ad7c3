package tests

import (
	"testing"

	"loop.example/wharfhall/impl"
)

func TestMayEndInTheFleet(t *testing.T) {
	b := fleetBook()
	for _, c := range []struct {
		service string
		number  int
		want    bool
	}{
		{"api", 1, true}, {"api", 2, true}, {"api", 3, false},
		{"old", 2, true}, {"old", 4, false}, {"old", 5, true},
		{"web", 1, true}, {"web", 2, true}, {"web", 4, true}, {"web", 5, true}, {"web", 6, true}, {"web", 7, false},
		{"web-2", 1, false}, {"web-2", 2, false},
	} {
		wantMayEnd(t, "the fleet", b, c.service, c.number, c.want)
	}
}

func TestWhatIsNotThereMayNotEnd(t *testing.T) {
	b := fleetBook()
	for _, number := range []int{-1, 0, 3, 8, 9, 1000000, 1000001, -1 << 63, 1<<63 - 1} {
		wantMayEnd(t, "no such copy", b, "web", number, false)
	}
	for _, service := range []string{"", "a", "b", "void", "we", "web-", "web-3", "WEB", "webb", "é", "\x00", long(500)} {
		for number := range 10 {
			wantMayEnd(t, "no such service, or no copy of it", b, service, number, false)
		}
	}
	wantMayEnd(t, "nothing", impl.StewBook{}, "", 0, false)
	wantMayEnd(t, "nothing", impl.StewBook{}, "web", 1, false)
}

func TestNothingMayEndInAWrongBook(t *testing.T) {
	for what, b := range wrongStewBooks() {
		for _, service := range []string{"api", "db", "web", "web_", "n100", ""} {
			for number := range 21 {
				wantMayEnd(t, what, b, service, number, false)
			}
		}
	}
}

// One that is not ready, or of a service that is Gone, may end as long as it is Live, however few are left.
func TestStatesThatMayEnd(t *testing.T) {
	for state := impl.StewWaiting; state <= impl.StewFailed; state++ {
		for _, gone := range []bool{true, false} {
			for _, ending := range []bool{true, false} {
				b := readyBook(3, 0, 1, 0)
				b.Services[0].Gone = gone
				b.Copies[0].State, b.Copies[0].Ending = state, ending
				if state == impl.StewWaiting {
					b.Copies[0].Berth = ""
				}
				wantMayEnd(t, "State "+count(state), b, "web", 1, !ending && (gone || state != impl.StewReady))
			}
		}
	}
}

// Of the others just Want less Down must be ready: where Down is Want, or more, none.
func TestHowManyOthersMustBeReady(t *testing.T) {
	for want := range impl.StewMaxWant + 1 {
		for down := range impl.StewMaxSpare + 1 {
			for others := range 13 {
				b := readyBook(want, down, 1+others, 3)
				for number := 1; number <= 1+others; number++ {
					wantMayEnd(t, "ready", b, "web", number, others >= want-down)
				}
				for number := 2 + others; number <= 4+others; number++ {
					wantMayEnd(t, "waiting", b, "web", number, true)
				}
			}
		}
	}
}

// Over, Image and the berths change nothing: an old one that is ready counts, and so does one on a berth to be drained.
func TestWhoCountsAsReady(t *testing.T) {
	for what, c := range map[string]struct {
		turn func(b *impl.StewBook)
		want bool
	}{
		"as it is":               {func(b *impl.StewBook) {}, true},
		"another is Ending":      {func(b *impl.StewBook) { b.Copies[1].Ending = true }, false},
		"another starts":         {func(b *impl.StewBook) { b.Copies[1].State = impl.StewStarting }, false},
		"another failed":         {func(b *impl.StewBook) { b.Copies[1].State = impl.StewFailed }, false},
		"another waits":          {func(b *impl.StewBook) { b.Copies[1].State, b.Copies[1].Berth = impl.StewWaiting, "" }, false},
		"another is old":         {func(b *impl.StewBook) { b.Copies[1].Image = 7 }, true},
		"all are old":            {func(b *impl.StewBook) { b.Services[0].Image = 7 }, true},
		"all are to be drained":  {func(b *impl.StewBook) { b.Berths[0].Drain = true }, true},
		"a waiting one is there": {func(b *impl.StewBook) { b.Services[0].Want = 4 }, false},
		"Over is great":          {func(b *impl.StewBook) { b.Services[0].Want, b.Services[0].Over = 4, 10 }, false},
		"one more down":          {func(b *impl.StewBook) { b.Services[0].Want, b.Services[0].Down = 4, 2 }, true},
	} {
		b := readyBook(3, 1, 3, 1)
		c.turn(&b)
		wantMayEnd(t, what, b, "web", 1, c.want)
		if got := mayEndByHand(b, "web", 1); got != c.want {
			t.Errorf("%s: by the document's words it is %v", what, got)
		}
	}
}

// The copies of another service with a name much like it do not count.
func TestOthersAreOfTheSameService(t *testing.T) {
	b := readyBook(2, 1, 1, 0)
	wantMayEnd(t, "alone", b, "web", 1, false)
	for _, name := range []string{"we", "web-", "web2"} {
		with := stewCopyBook(b)
		s := plainService(name)
		s.Next = 9
		c := with.Copies[0]
		c.Service, c.Number = name, 2
		if name < "web" {
			with.Services, with.Copies = append([]impl.StewService{s}, with.Services...), append([]impl.StewCopy{c}, with.Copies...)
		} else {
			with.Services, with.Copies = append(with.Services, s), append(with.Copies, c)
		}
		wantValid(t, name, with, true)
		wantMayEnd(t, name, with, "web", 1, false)
		wantMayEnd(t, name, with, "web", 2, false)
		wantMayEnd(t, name, with, name, 1, false)
		wantMayEnd(t, name, with, name, 2, true)
	}
}

// P23, over many drawn books.
func TestDrawnMayEnd(t *testing.T) {
	d := &dice{state: 1423}
	seen := map[bool]int{}
	raised := 0
	for range 1500 {
		b := diceStewBook(d)
		for _, c := range b.Copies {
			want := mayEndByHand(b, c.Service, c.Number)
			seen[want]++
			wantMayEnd(t, "drawn", b, c.Service, c.Number, want)
			s := b.Services[stewPlaceByHand(b, c.Service)]
			if !c.Ending && (s.Gone || c.State != impl.StewReady) {
				wantMayEnd(t, "Live, and nobody relies on it", b, c.Service, c.Number, true)
			}
			if want {
				raised += wantStillMayEnd(t, d, b, c)
			}
		}
		for range 3 {
			service, number := oneOf(d, append([]string{"", "none"}, diceServices...)...), d.below(14)-1
			wantMayEnd(t, "drawn", b, service, number, mayEndByHand(b, service, number))
		}
	}
	if seen[true] < 1000 || seen[false] < 1000 || raised < 1000 {
		t.Errorf("the dice showed too little: %v, %d", seen, raised)
	}
}

// wantStillMayEnd lets another copy of the service become ready, if there is one, and tells whether it did.
func wantStillMayEnd(t *testing.T, d *dice, b impl.StewBook, c impl.StewCopy) int {
	t.Helper()
	at := d.below(len(b.Copies))
	other := b.Copies[at]
	if len(b.Berths) == 0 || other.Service != c.Service || other.Number == c.Number {
		return 0
	}
	b = stewCopyBook(b)
	b.Copies[at].State, b.Copies[at].Berth = impl.StewReady, oneOf(d, b.Berths...).Name
	wantValid(t, "another is ready", b, true)
	wantMayEnd(t, "another is ready", b, c.Service, c.Number, true)
	return 1
}
