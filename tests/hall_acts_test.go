package tests

import (
	"slices"
	"strings"
	"testing"

	"loop.example/wharfhall/impl"
)

// wantActForms asks for the forms of what a steward asks for in books of yardHouse.
func wantActForms(t *testing.T, what string, b impl.HallBook, steward int, forms ...string) {
	t.Helper()
	wantHallOk(t, what, yardHouse(), b, true)
	if got := formsOf(wantActs(t, what, yardHouse(), b, steward)); !slices.Equal(got, forms) {
		t.Errorf("%s: %d asks for %q, not for %q", what, steward, got, forms)
	}
}

func TestWhatStewardsOfTheHallAskFor(t *testing.T) {
	for steward, forms := range map[int][]string{
		impl.StewCounter: {"act 60 log 52 1 * * *", "act 60 zip 54 1 * * *"},
		impl.StewWaver:   {"act 60 web 53 1 * * *"},
		impl.StewMender:  {},
		impl.StewScaler:  {"act 60 web 53 0 3:0 * *"},
		impl.StewSweeper: {"act 60 db 51 0 * * drop", "act 60 old 53 0 * 2:23 *"},
		impl.StewDrainer: {"act 60 api 50 1 * * *"},
	} {
		wantActForms(t, "the hall's books", hallBooks(), steward, forms...)
	}
	failed := turnedHall(func(b *impl.HallBook) { b.Stew.Copies[0].State, b.Stew.Copies[7].Ending = impl.StewFailed, false })
	wantActForms(t, "two failed", failed, impl.StewMender, "act 60 api 50 0 * 1:20 *", "act 60 web 53 0 * 8:18 *")
}

func TestStewardsThatThereAreNot(t *testing.T) {
	for _, steward := range []int{0, 7, 8, -1, -6, 100, -1 << 63, 1<<63 - 1} {
		for _, b := range []impl.HallBook{{}, hallBooks(), restHall(), impl.HallFirst(yardHouse())} {
			wantActForms(t, "no steward", b, steward)
		}
	}
}

func TestActsOfBooksThatAreNotOk(t *testing.T) {
	for what, b := range wrongHalls() {
		for steward := range 8 {
			if acts := wantActs(t, what, yardHouse(), b, steward); len(acts) > 0 {
				t.Errorf("%s: %d asks for %q", what, steward, formsOf(acts))
			}
		}
	}
	for what, h := range wrongHouses() {
		for steward := range 8 {
			if acts := wantActs(t, what, h, hallBooks(), steward); len(acts) > 0 {
				t.Errorf("%s: %d asks for %q", what, steward, formsOf(acts))
			}
		}
	}
}

// restHall are books of yardHouse in which there is nothing to do: api follows no load, of void nothing is wanted, web has
// what its load asks for, and others than the hall still hold what is Ending.
func restHall() impl.HallBook {
	return hallOf(restFleet(), ending(madeService("late", "mill", "1,5,0,1,,", 7, "audit")))
}

func restFleet() impl.StewBook {
	b := calmBook()
	b.Services[calmApi].Over = 1
	b.Services[calmWeb].Least = 0
	return b
}

// Who sees that all is done asks for nothing.
func TestActsOfBooksThatAreDone(t *testing.T) {
	for steward := range 8 {
		wantActForms(t, "at rest", restHall(), steward)
		wantActForms(t, "first", impl.HallFirst(yardHouse()), steward)
		wantActForms(t, "nothing", impl.HallBook{}, steward)
	}
}

// The Number of an act is the Now of the stewards' book: the same act, asked for by a later book, is another text.
func TestNumbersOfActs(t *testing.T) {
	for _, now := range []int{60, 61, 999, 123456, impl.StewMaxNumber} {
		b := turnedHall(func(b *impl.HallBook) { b.Stew.Now = now })
		wantActForms(t, "now", b, impl.StewCounter, "act "+count(now)+" log 52 1 * * *", "act "+count(now)+" zip 54 1 * * *")
		wantActForms(t, "now", b, impl.StewSweeper, "act "+count(now)+" db 51 0 * * drop", "act "+count(now)+" old 53 0 * 2:23 *")
	}
	b := turnedHall(func(b *impl.HallBook) { b.Gate.Now = 1000 })
	wantActForms(t, "the gate's Now is another", b, impl.StewScaler, "act 60 web 53 0 3:0 * *")
}

// manyHall are books with one service, and n copies of it that a steward ends: where it is Gone the sweeper all, else the
// mender those that failed.
func manyHall(name string, n int, gone bool) impl.HallBook {
	stew := crewBook(2, 1, 1, strings.Repeat("F ", n))
	stew.Services[0].Name, stew.Services[0].Gone = name, gone
	for i := range stew.Copies {
		stew.Copies[i].Service = name
	}
	return hallOf(stew)
}

// manyForm is the form of an act that ends the first n copies of manyHall, however long it is.
func manyForm(name string, n int) string {
	var ends []string
	for i := range n {
		ends = append(ends, count(1+i)+":"+count(11+i))
	}
	return "act 500 " + name + " 9 0 * " + strings.Join(ends, ",") + " *"
}

// Of an act that is too long just as many of its first Ends are left as fit.
func TestActsThatAreTooLong(t *testing.T) {
	t.Parallel()
	met := map[string]int{}
	for size := 1; size <= impl.GateMaxName; size++ {
		name := long(size)
		fit := 1
		for len(manyForm(name, fit+1)) <= impl.RecMaxText {
			fit++
		}
		for _, n := range []int{1, 2, fit - 1, fit, fit + 1, fit + 2, 2 * fit, 100, impl.StewMaxCopies} {
			form := manyForm(name, min(n, fit))
			wantActForms(t, "gone", manyHall(name, n, true), impl.StewSweeper, form)
			wantActForms(t, "failed", manyHall(name, n, false), impl.StewMender, form)
			met["bytes: "+count(len(form))]++
			if n == fit+1 {
				met["one End too many by bytes: "+count(len(manyForm(name, n))-impl.RecMaxText)]++
			}
		}
	}
	wantSeen(t, met, 1, "bytes: 160", "bytes: 159", "bytes: 155", "one End too many by bytes: 1", "one End too many by bytes: 6")
}

// A steward asks again for what was left out, until there is nothing left of it.
func TestActsThatAreTooLongAreDoneBitByBit(t *testing.T) {
	for _, n := range []int{20, 30, 60, impl.StewMaxCopies} {
		b, left, rounds := manyHall("web", n, true), n, 0
		for left > 0 {
			acts := wantActs(t, "bit by bit", yardHouse(), b, impl.StewSweeper)
			if len(acts) != 1 || len(acts[0].Act.Ends) == 0 {
				t.Fatalf("%d of %d are left, and the sweeper asks for %q", left, n, formsOf(acts))
			}
			left -= len(acts[0].Act.Ends)
			b = wantHallDo(t, "bit by bit", yardHouse(), b, acts[0], impl.GateSaid{Version: b.Stew.Now + 1})
			rounds++
		}
		if acts := wantActs(t, "all are Ending", yardHouse(), b, impl.StewSweeper); len(acts) != 0 || (rounds == 1) != (len(manyForm("web", n)) <= impl.RecMaxText) {
			t.Errorf("behind %d rounds the sweeper asks for %q", rounds, formsOf(acts))
		}
	}
}

// goneFleet has as many services as there may be, all Gone, each with n copies.
func goneFleet(n int) impl.StewBook {
	b := stewServices(names(impl.StewMaxServices)...)
	for i := range b.Services {
		s := &b.Services[i]
		s.Gone, s.Over, s.Next = true, 1, n+1
		for number := range n {
			b.Copies = append(b.Copies, waitingCopy(s.Name, number+1))
		}
	}
	return b
}

// Each act is cut for itself, and the acts stay in the order of their services.
func TestSeveralActsThatAreTooLong(t *testing.T) {
	b := hallOf(goneFleet(25))
	acts := wantActs(t, "several", yardHouse(), b, impl.StewSweeper)
	if len(acts) != impl.StewMaxServices {
		t.Fatalf("%q", formsOf(acts))
	}
	for i, e := range acts {
		if e.Act.Service != names(8)[i] || e.Number != b.Stew.Now || len(e.Act.Ends) == 0 || e.Act.Ends[0].Number != 1 {
			t.Errorf("%d: %q", i, impl.HallForm(e))
		}
	}
	mixed := goneFleet(3)
	for number := 4; number <= 90; number++ {
		mixed.Copies = append(mixed.Copies, waitingCopy("n107", number))
	}
	mixed.Services[7].Next = 91
	acts = wantActs(t, "the last is too long", yardHouse(), hallOf(mixed), impl.StewSweeper)
	if len(acts) != 8 || len(acts[0].Act.Ends) != 3 || len(acts[6].Act.Ends) != 3 || len(acts[7].Act.Ends) < 10 || len(acts[7].Act.Ends) > 40 {
		t.Errorf("%q", formsOf(acts))
	}
}

// Whatever else an act has, it is never too long.
func TestActsThatAreNeverTooLong(t *testing.T) {
	name, last := long(impl.GateMaxName), impl.StewMaxNumber
	service := impl.StewService{Name: name, Version: last, Image: 1000, Want: 10, Down: 10, Over: 10, Next: last}
	b := impl.StewBook{Now: last, Services: []impl.StewService{service}}
	wantActForms(t, "to create", hallOf(b), impl.StewCounter, "act 1000000 "+name+" 1000000 10 * * *")
	b.Services[0].Gone = true
	wantActForms(t, "to drop", hallOf(b), impl.StewSweeper, "act 1000000 "+name+" 1000000 0 * * drop")
	for i := range 9 {
		b.Copies = append(b.Copies, impl.StewCopy{Service: name, Number: last - 9 + i, Version: last, Image: 1, State: impl.StewWaiting})
	}
	acts := wantActs(t, "to end", yardHouse(), hallOf(b), impl.StewSweeper)
	if len(acts) != 1 || len(acts[0].Act.Ends) != 7 {
		t.Errorf("%q", formsOf(acts))
	}
	b.Services[0].Gone, b.Services[0].Per, b.Services[0].Most, b.Services[0].Want, b.Services[0].Load = false, 1, 10, 0, 1000000
	wantActForms(t, "to scale", hallOf(b), impl.StewScaler, "act 1000000 "+name+" 1000000 0 10:0 * *")
}
