package tests

import (
	"math"
	"testing"

	"loop.example/wharfhall/impl"
)

func TestStewBooksThatAreValid(t *testing.T) {
	wantValid(t, "nothing", impl.StewBook{}, true)
	wantValid(t, "empty lists", impl.StewBook{Services: []impl.StewService{}, Copies: []impl.StewCopy{}, Berths: []impl.StewBerth{}}, true)
	wantValid(t, "the port", portBook(), true)
	wantValid(t, "services alone", stewServices("a", "b"), true)
	wantValid(t, "berths alone", stewBerths("a", "b"), true)
	for n := range impl.StewMaxServices + 1 {
		wantValid(t, "services: "+count(n), stewServices(names(n)...), true)
	}
	for n := range impl.StewMaxCopies + 1 {
		wantValid(t, "copies: "+count(n), manyCopies(n), true)
	}
	for n := range impl.StewMaxBerths + 1 {
		wantValid(t, "berths: "+count(n), stewBerths(names(n)...), true)
	}
}

func TestStewBooksThatAreNotValid(t *testing.T) {
	for what, b := range wrongStewBooks() {
		wantValid(t, what, b, false)
	}
	for _, n := range []int{2, 5, 100} {
		wantValid(t, "services too many: "+count(n), stewServices(names(impl.StewMaxServices+n)...), false)
		wantValid(t, "copies too many: "+count(n), manyCopies(impl.StewMaxCopies+n), false)
		wantValid(t, "berths too many: "+count(n), stewBerths(names(impl.StewMaxBerths+n)...), false)
	}
}

// The copies are counted over all services together.
func TestCopiesAreBoundedTogether(t *testing.T) {
	for _, c := range []struct {
		first, second int
		ok            bool
	}{{100, 100, true}, {100, 101, false}, {1, 199, true}, {199, 2, false}, {0, 200, true}, {200, 1, false}} {
		b := stewServices("a", "b")
		b.Services[0].Next, b.Services[1].Next = 300, 300
		for n := range c.first {
			b.Copies = append(b.Copies, waitingCopy("a", n+1))
		}
		for n := range c.second {
			b.Copies = append(b.Copies, waitingCopy("b", n+1))
		}
		wantValid(t, "copies: "+count(c.first)+" and "+count(c.second), b, c.ok)
	}
}

func TestNowOfAStewBook(t *testing.T) {
	for now, ok := range map[int]bool{
		0: true, 1: true, impl.StewMaxNumber - 1: true, impl.StewMaxNumber: true,
		-1: false, impl.StewMaxNumber + 1: false, math.MinInt: false, math.MaxInt: false,
	} {
		wantValid(t, "Now "+count(now), impl.StewBook{Now: now}, ok)
		b := stewBerths("north")
		b.Now = now
		wantValid(t, "a berth and Now "+count(now), b, ok)
	}
	// At Now 0 nothing has a version yet.
	b := stewServices("web")
	b.Now = 0
	wantValid(t, "a service at Now 0", b, false)
	b.Services[0].Version = 0
	wantValid(t, "a service with Version 0 at Now 0", b, false)
}

func TestNamesOfServicesAndBerths(t *testing.T) {
	for n := range 30 {
		ok := 1 <= n && n <= impl.StewMaxName
		wantValid(t, "a service's name of bytes: "+count(n), stewServices(long(n)), ok)
		wantValid(t, "a berth's name of bytes: "+count(n), stewBerths(long(n)), ok)
	}
	for c := range 256 {
		ok := 'a' <= c && c <= 'z' || '0' <= c && c <= '9' || c == '-'
		for _, name := range []string{string([]byte{byte(c)}), "a" + string([]byte{byte(c)}) + "b", string([]byte{byte(c)}) + "b", long(19) + string([]byte{byte(c)})} {
			wantValid(t, "a service's name", stewServices(name), ok)
			wantValid(t, "a berth's name", stewBerths(name), ok)
		}
	}
	for _, name := range []string{"é", "ａ", "a\n", "web "} {
		wantValid(t, "a service's name", stewServices(name), false)
		wantValid(t, "a berth's name", stewBerths(name), false)
	}
	// Names are longer here than in part one.
	wantValid(t, "a long name", stewServices(long(impl.GateMaxName+1)), true)
}

// A name that is none is seen wherever it stands.
func TestEachServiceAndBerthIsLookedAt(t *testing.T) {
	for i := range impl.StewMaxServices {
		b := stewServices(names(impl.StewMaxServices)...)
		b.Services[i].Name += "!"
		wantValid(t, "a service's name at "+count(i), b, false)
		b = stewServices(names(impl.StewMaxServices)...)
		b.Services[i].Image = 0
		wantValid(t, "a service's Image at "+count(i), b, false)
	}
	for i := range impl.StewMaxBerths {
		b := stewBerths(names(impl.StewMaxBerths)...)
		b.Berths[i].Name += "!"
		wantValid(t, "a berth's name at "+count(i), b, false)
	}
	for i := range impl.StewMaxCopies {
		b := manyCopies(impl.StewMaxCopies)
		b.Copies[i].Image = 0
		wantValid(t, "a copy's Image at "+count(i), b, false)
	}
}

func TestServicesAndBerthsAscend(t *testing.T) {
	for _, c := range []struct {
		names []string
		ok    bool
	}{
		{[]string{"a", "b"}, true}, {[]string{"b", "a"}, false}, {[]string{"a", "a"}, false},
		{[]string{"a", "b", "c"}, true}, {[]string{"a", "c", "b"}, false}, {[]string{"b", "a", "c"}, false},
		{[]string{"a", "b", "b"}, false}, {[]string{"a", "b", "a"}, false}, {[]string{"c", "b", "a"}, false},
		{[]string{"a", "ab"}, true}, {[]string{"ab", "a"}, false}, {[]string{"a", "a-"}, true}, {[]string{"ab", "b"}, true},
		{[]string{"-", "0", "9", "a", "z"}, true}, {[]string{"0", "-"}, false}, {[]string{"a", "9"}, false},
		{[]string{"n10", "n9"}, true}, {[]string{"n9", "n10"}, false},
	} {
		wantValid(t, "services", stewServices(c.names...), c.ok)
		wantValid(t, "berths", stewBerths(c.names...), c.ok)
	}
}

// numberCase sets a number of something to values that it may have, and to ones that it may not.
type numberCase struct {
	what      string
	set       func(s *impl.StewService, n int)
	good, bad []int
}

// wantNumbers tries the numbers in a service that stands between two others; each case may turn other parts, too.
func wantNumbers(t *testing.T, cases []numberCase) {
	t.Helper()
	for _, c := range cases {
		for _, list := range []struct {
			values []int
			ok     bool
		}{{c.good, true}, {append([]int{math.MinInt, math.MaxInt}, c.bad...), false}} {
			for _, n := range list.values {
				b := stewServices("a", "web", "z")
				b.Now = 90
				b.Services[1].Per = 5
				c.set(&b.Services[1], n)
				wantValid(t, c.what+" "+count(n), b, list.ok)
			}
		}
	}
}

func TestNumbersOfServices(t *testing.T) {
	many := impl.StewMaxNumber
	wantNumbers(t, []numberCase{
		{"Version", func(s *impl.StewService, n int) { s.Version = n }, []int{1, 2, 89, 90}, []int{-1, 0, 91, many}},
		{"Image", func(s *impl.StewService, n int) { s.Image = n }, []int{1, 2, 91, many - 1, many}, []int{-1, 0, many + 1}},
		{"Next", func(s *impl.StewService, n int) { s.Next = n }, []int{1, 2, 91, many - 1, many}, []int{-1, 0, many + 1}},
		{"Want", func(s *impl.StewService, n int) { s.Want = n }, []int{0, 1, 9, 10}, []int{-1, 11}},
		{"Want without a Per", func(s *impl.StewService, n int) { s.Want, s.Per = n, 0 }, []int{0, 1, 9, 10}, []int{-1, 11}},
		{"Want of a Gone one", func(s *impl.StewService, n int) { s.Want, s.Gone = n, true }, []int{0, 1, 9, 10}, []int{-1, 11}},
		{"Down", func(s *impl.StewService, n int) { s.Down, s.Over = n, 1 }, []int{0, 1, 9, 10}, []int{-1, 11}},
		{"Down alone", func(s *impl.StewService, n int) { s.Down, s.Over = n, 0 }, []int{1, 9, 10}, []int{-1, 0, 11}},
		{"Over", func(s *impl.StewService, n int) { s.Over, s.Down = n, 1 }, []int{0, 1, 9, 10}, []int{-1, 11}},
		{"Over alone", func(s *impl.StewService, n int) { s.Over, s.Down = n, 0 }, []int{1, 9, 10}, []int{-1, 0, 11}},
		{"Down and Over", func(s *impl.StewService, n int) { s.Down, s.Over = n, n }, []int{1, 10}, []int{-1, 0, 11}},
		{"Down with an Over below 0", func(s *impl.StewService, n int) { s.Down, s.Over = n, -1 }, nil, []int{-1, 0, 1, 2, 10}},
		{"Over with a Down below 0", func(s *impl.StewService, n int) { s.Over, s.Down = n, -1 }, nil, []int{-1, 0, 1, 2, 10}},
		{"Per", func(s *impl.StewService, n int) { s.Per = n }, []int{0, 1, 2, 999999, 1000000}, []int{-1, 1000001}},
		{"Load", func(s *impl.StewService, n int) { s.Load = n }, []int{0, 1, 2, 999999, 1000000}, []int{-1, 1000001}},
		{"Per and Load", func(s *impl.StewService, n int) { s.Per, s.Load = n, n }, []int{0, 1, 1000000}, []int{-1, 1000001}},
		{"Least", func(s *impl.StewService, n int) { s.Least, s.Most = n, 10 }, []int{0, 1, 9, 10}, []int{-1, 11}},
		{"Most", func(s *impl.StewService, n int) { s.Most = n }, []int{0, 1, 9, 10}, []int{-1, 11}},
		{"Least of a Most of 4", func(s *impl.StewService, n int) { s.Least, s.Most = n, 4 }, []int{0, 3, 4}, []int{-1, 5, 10}},
		{"Most of a Least of 4", func(s *impl.StewService, n int) { s.Least, s.Most = 4, n }, []int{4, 5, 10}, []int{-1, 0, 3, 11}},
		{"Least that is Most", func(s *impl.StewService, n int) { s.Least, s.Most = n, n }, []int{0, 1, 9, 10}, []int{-1, 11}},
		{"Cool", func(s *impl.StewService, n int) { s.Cool = n }, []int{0, 1, 2, 3}, []int{-1, 4}},
	})
}

// What a Per of 0 asks of the rest: it is nothing, each and all of it. With a Per of 1 it may be set.
func TestAPerOf0(t *testing.T) {
	for what, turn := range map[string]func(s *impl.StewService){
		"Most":                func(s *impl.StewService) { s.Most = 1 },
		"a great Most":        func(s *impl.StewService) { s.Most = impl.StewMaxWant },
		"Least and Most":      func(s *impl.StewService) { s.Least, s.Most = 1, 1 },
		"Load":                func(s *impl.StewService) { s.Load = 1 },
		"a great Load":        func(s *impl.StewService) { s.Load = impl.StewMaxLoad },
		"Cool":                func(s *impl.StewService) { s.Cool = 1 },
		"a great Cool":        func(s *impl.StewService) { s.Cool = impl.StewCool },
		"all":                 func(s *impl.StewService) { s.Least, s.Most, s.Load, s.Cool = 2, 3, 4, 1 },
		"all of a Gone one":   func(s *impl.StewService) { s.Least, s.Most, s.Load, s.Cool, s.Gone = 2, 3, 4, 1, true },
		"all with a Want":     func(s *impl.StewService) { s.Least, s.Most, s.Load, s.Cool, s.Want = 2, 3, 4, 1, 2 },
		"Load and Cool alone": func(s *impl.StewService) { s.Load, s.Cool = 7, 2 },
	} {
		b := stewServices("web")
		turn(&b.Services[0])
		wantValid(t, what+" without a Per", b, false)
		b.Services[0].Per = -1
		wantValid(t, what+" with a Per below 0", b, false)
		b.Services[0].Per = 1
		wantValid(t, what+" with a Per", b, true)
		b.Services[0].Per = impl.StewMaxLoad
		wantValid(t, what+" with a great Per", b, true)
	}
	least := stewServices("web")
	least.Services[0].Least = 1
	wantValid(t, "Least alone, without a Per", least, false)
	// Want, and what may be down or over, hang on no Per.
	b := stewServices("web")
	b.Services[0].Want, b.Services[0].Down, b.Services[0].Over = 10, 10, 10
	wantValid(t, "the rest without a Per", b, true)
}

// Want may lie outside of Least and Most: the stewards bring it there.
func TestWantMayBeOutsideOfItsBounds(t *testing.T) {
	for want := range impl.StewMaxWant + 1 {
		b := stewServices("web")
		b.Services[0].Want, b.Services[0].Per, b.Services[0].Least, b.Services[0].Most = want, 1, 4, 6
		wantValid(t, "Want "+count(want), b, true)
	}
}
