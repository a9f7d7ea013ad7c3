package tests

import (
	"slices"
	"testing"

	"loop.example/wharfhall/impl"
)

// askOf is the ask of a slip that is told without its Number, door, Given and wants.
func askOf(t *testing.T, told string) impl.GateAsk {
	t.Helper()
	return readEntry(t, "slip 1 d1 0 * "+told).Slip.Ask
}

// wantSlipForm asks for the form of what the door d1 makes of an ask in books of yardHouse.
func wantSlipForm(t *testing.T, b impl.HallBook, told, wants string) {
	t.Helper()
	e := wantSlipEntry(t, told, yardHouse(), b, 7, "d1", askOf(t, told), impl.GateSaid{})
	if form := "slip 7 d1 " + count(b.Gate.Given) + " " + wants + " " + told; impl.HallForm(e) != form {
		t.Errorf("the form is %q, not %q", impl.HallForm(e), form)
	}
}

// wantNoSlipOf asks for what is said to an ask of the door d1 in hallBooks.
func wantNoSlipOf(t *testing.T, told string, said impl.GateSaid) {
	t.Helper()
	wantSlipEntry(t, told, yardHouse(), hallBooks(), 7, "d1", askOf(t, told), said)
}

// doneAsks are asks of each verb that a door makes a slip of in hallBooks, with the wants of these.
func doneAsks() map[string]string {
	return map[string]string{
		"ann make new dock fleet 1,2,,,,":              "new:0",
		"ann make new dock audit,fleet,tax 1,2,0,1,9,": "new:0",
		"ann make new dock fleet 1,2,,,,api":           "new:0,api:10",
		"bob make wow dock fleet 1,2,,,,":              "wow:0",
		"ann change web 16 5,4,1,2,50,":                "web:16",
		"ann change web 0 5,4,1,2,50,":                 "web:16",
		"ann change web 0 5,4,1,2,50,web":              "web:16,web:16",
		"bob change web 16 4,6,2,3,100,api":            "web:16,api:10",
		"ann change log 15 3,2,,,,db":                  "log:15",
		"ann change log 15 3,2,,,,":                    "log:15",
		"ann change zip 0 1,1,,2,,web":                 "zip:17,web:16",
		"ann end web 16":                               "web:16",
		"ann end api 0":                                "api:10",
		"ann letgo web tax":                            "web:16",
		"ann letgo late audit":                         "late:14",
		"ann give cyd 15 service dock w":               "*",
		"ann give ann 12345 * * *":                     "*",
		"ann take 2":                                   "*",
		"ann take 3":                                   "*",
		"ann give fleet 1 fleet fleet fleet":           "*",
		"ann make fleet mill fleet 1000,10,10,10,,":    "fleet:0",
		"ann change zip 17 1,1,whatever,2,,":           "zip:17",
	}
}

func TestSlipsOfTheHall(t *testing.T) {
	for told, wants := range doneAsks() {
		wantSlipForm(t, hallBooks(), told, wants)
		// The door that sees the books as they are is not late.
		e, _ := impl.HallSlipOf(yardHouse(), hallBooks(), 7, "d1", askOf(t, told))
		wantHallDo(t, told, yardHouse(), hallBooks(), e, impl.GateSaid{Version: hallGateNext})
	}
	wantSlipForm(t, impl.HallFirst(yardHouse()), "ann make web dock fleet 1,1,,,,", "web:0")
	given := turnedHall(func(b *impl.HallBook) { b.Gate.Given = 29 })
	wantSlipForm(t, given, "ann end web 16", "web:16")
}

// The purses are not asked: what the door can't pay for is refused where the entry comes to stand, not before.
func TestSlipsThatCostTooMuch(t *testing.T) {
	for _, told := range []string{"ann make new dock fleet 1,9,,1,,", "ann make new gang fleet 1,10,,10,,", "ann change web 0 4,10,2,10,100,"} {
		for _, door := range []string{"d1", "d2", "d9"} {
			e := wantSlipEntry(t, told, yardHouse(), hallBooks(), 7, door, askOf(t, told), impl.GateSaid{})
			wantHallDo(t, told, yardHouse(), hallBooks(), e, impl.GateSaid{Code: 10})
		}
	}
}

// The stewards are not asked, either: a door makes a slip of a ninth service.
func TestASlipOfANinthService(t *testing.T) {
	a := askOf(t, "ann make new dock fleet 1,2,,,,")
	for n := range impl.StewMaxServices + 1 {
		e := wantSlipEntry(t, count(n), yardHouse(), crowdedHall(n, 0), 7, "d1", a, impl.GateSaid{})
		said := impl.GateSaid{Version: 10}
		if n == impl.StewMaxServices {
			said = undone(2)
		}
		wantHallDo(t, count(n), yardHouse(), crowdedHall(n, 0), e, said)
		wantSlipEntry(t, "no room", yardHouse(), crowdedHall(n, impl.GateMaxObjects-n), 7, "d1", a, codeAlone(11))
	}
	last := turnedHall(func(b *impl.HallBook) { b.Stew.Now = impl.StewMaxNumber })
	wantSlipEntry(t, "at the stewards' end", yardHouse(), last, 7, "d1", a, impl.GateSaid{})
}

// What GateSlipOf answers is told as it is, with its Place and Version.
func TestAsksThatMakeNoSlip(t *testing.T) {
	for told, said := range map[string]impl.GateSaid{
		"ann make new nowhere fleet 1,2,,,,":       codeAlone(2),
		"ann make new dock fleet,audit 1,2,,,,":    codeAlone(2),
		"ann make new dock a,b,c,fleet 1,2,,,,":    codeAlone(2),
		"ann give bob 21 * * *":                    codeAlone(2),
		"ann give bob 6 * * *":                     codeAlone(2),
		"ann take 0":                               codeAlone(2),
		"ann make api dock fleet 1,2,,,,":          codeAlone(3),
		"ann change none 0 1,2,,,,":                codeAlone(3),
		"ann end none 0":                           codeAlone(3),
		"ann letgo none audit":                     codeAlone(3),
		"ann take 4":                               codeAlone(3),
		"cyd end web 0":                            codeAlone(4),
		"bob end web 0":                            codeAlone(4),
		"bob make new dock fleet 1,2,,,,":          codeAlone(4),
		"bob give cyd 1 service dock w":            codeAlone(4),
		"bob take 1":                               codeAlone(4),
		"ann change web 15 1,2,,,,":                {Code: 5, Version: 16},
		"ann end api 11":                           {Code: 5, Version: 10},
		"ann change db 0 1,2,,,,":                  codeAlone(6),
		"ann end late 0":                           codeAlone(6),
		"ann make new dock fleet ,2,,,,":           {Code: 7, Place: 0},
		"ann make new dock fleet 1,11,,,,":         {Code: 7, Place: 1},
		"ann change web 0 1,2,x,,,":                {Code: 7, Place: 2},
		"ann change web 0 1,2,,0,,":                {Code: 7, Place: 3},
		"ann change web 0 1,2,,,0,none":            {Code: 7, Place: 4},
		"ann make new dock fleet 1,2,,,,none":      {Code: 9, Place: 5},
		"ann change web 0 1,2,,,,gone":             {Code: 9, Place: 5},
		"ann letgo api audit":                      codeAlone(11),
		"ann letgo gone audit":                     codeAlone(11),
		"ann make new dock fleet 1001,10,,10,,":    {Code: 7, Place: 0},
		"bob change api 10 1,2,,,,":                codeAlone(4),
		"ann change zip 18 1,2,,,,":                {Code: 5, Version: 17},
		"ann make api nowhere fleet 1,2,,,,":       codeAlone(2),
		"cyd make new dock fleet 1,99,,,,whatever": codeAlone(4),
	} {
		wantNoSlipOf(t, told, said)
	}
	full := atEnds(impl.GateMaxVersion, 70)
	for told := range doneAsks() {
		wantSlipEntry(t, "at the gate's end", yardHouse(), full, 7, "d1", askOf(t, told), codeAlone(11))
	}
}

// oddAsks are asks that are not ok, and that no text tells.
func oddAsks(t *testing.T) map[string]impl.GateAsk {
	t.Helper()
	turned := func(told string, turn func(a *impl.GateAsk)) impl.GateAsk {
		a := askOf(t, told)
		turn(&a)
		return a
	}
	made := "ann make new dock fleet 1,2,,,,"
	return map[string]impl.GateAsk{
		"nothing":           {},
		"the verb -1":       turned("ann end web 0", func(a *impl.GateAsk) { a.Verb = -1 }),
		"the verb 7":        turned("ann end web 0", func(a *impl.GateAsk) { a.Verb = 7 }),
		"no Who":            turned("ann end web 0", func(a *impl.GateAsk) { a.Who = "" }),
		"Seen -1":           turned("ann end web 0", func(a *impl.GateAsk) { a.Seen = -1 }),
		"another kind":      turned(made, func(a *impl.GateAsk) { a.Kind = "crane" }),
		"five values":       turned(made, func(a *impl.GateAsk) { a.Values = a.Values[:5] }),
		"seven values":      turned(made, func(a *impl.GateAsk) { a.Values = append(a.Values, "") }),
		"a Hold beside":     turned("ann end web 0", func(a *impl.GateAsk) { a.Hold = "fleet" }),
		"Holds at a change": turned("ann change web 0 1,2,,,,", func(a *impl.GateAsk) { a.Holds = []string{"fleet"} }),
		"a Number beside":   turned(made, func(a *impl.GateAsk) { a.Number = 1 }),
		"a Rule beside":     turned("ann take 2", func(a *impl.GateAsk) { a.Rule = openRule() }),
	}
}

func TestAsksThatAreNotOkMakeNoSlip(t *testing.T) {
	for what, a := range oddAsks(t) {
		for _, number := range []int{0, 1, impl.HallMaxNumber, impl.HallMaxNumber + 1} {
			wantSlipEntry(t, what, yardHouse(), hallBooks(), number, "d1", a, codeAlone(2))
		}
	}
}

// meddlingAsks would leave out or let go the hold of the hall.
func meddlingAsks() []string {
	return []string{
		"ann make new dock * 1,2,,,,", "ann make new dock audit,tax 1,2,,,,", "ann make new dock flee 1,2,,,,", "ann make new dock fleets 1,2,,,,",
		"ann make api dock * 1,2,,,,", "cyd make new dock * 1,2,,,,", "ann make new nowhere * ,,,,,", "ann make new dock tax,audit 1,2,,,,",
		"ann letgo web fleet", "ann letgo db fleet", "ann letgo gone fleet", "ann letgo none fleet", "cyd letgo web fleet",
	}
}

// Code 15 comes ahead of all that GateSlipOf answers, and of a number that makes no entry.
func TestTheHallsOwnHold(t *testing.T) {
	for _, told := range meddlingAsks() {
		for _, number := range []int{0, 7, impl.HallMaxNumber + 1} {
			wantSlipEntry(t, told, yardHouse(), hallBooks(), number, "d1", askOf(t, told), codeAlone(15))
			wantSlipEntry(t, "at the gate's end", yardHouse(), atEnds(impl.GateMaxVersion, 70), number, "d1", askOf(t, told), codeAlone(15))
		}
	}
	// Nothing but the Verb, the Holds and the Hold is looked at.
	wantSlipEntry(t, "no more than a verb", yardHouse(), hallBooks(), 0, "d1", impl.GateAsk{Verb: impl.GateMake}, codeAlone(15))
	wantSlipEntry(t, "no more than a hold", yardHouse(), hallBooks(), 0, "d1", impl.GateAsk{Verb: impl.GateLetGo, Hold: "fleet"}, codeAlone(15))
	wantSlipEntry(t, "a hold among others", yardHouse(), hallBooks(), 0, "d1", impl.GateAsk{Verb: impl.GateMake, Holds: []string{"x", "A", "fleet", ""}}, codeAlone(2))
	wantSlipEntry(t, "another hold", yardHouse(), hallBooks(), 0, "d1", impl.GateAsk{Verb: impl.GateLetGo, Hold: "fleets"}, codeAlone(2))
}

// anyAsks are asks of all sorts: ones that a slip is made of in hallBooks, and ones with each code.
func anyAsks(t *testing.T) []impl.GateAsk {
	t.Helper()
	var out []impl.GateAsk
	for _, told := range append(meddlingAsks(), "ann end web 16", "ann end none 0", "cyd end web 0", "ann make new dock fleet 1,2,,,,") {
		out = append(out, askOf(t, told))
	}
	for _, a := range oddAsks(t) {
		out = append(out, a)
	}
	return out
}

// Code 1 comes ahead of all others.
func TestSlipsOfBooksThatAreNotOk(t *testing.T) {
	for what, b := range wrongHalls() {
		for _, a := range anyAsks(t) {
			wantSlipEntry(t, what, yardHouse(), b, 7, "d1", a, codeAlone(1))
		}
		wantSlipEntry(t, what, yardHouse(), b, 0, "", impl.GateAsk{}, codeAlone(1))
	}
	for what, h := range wrongHouses() {
		for _, b := range []impl.HallBook{{}, hallBooks(), impl.HallFirst(yardHouse())} {
			wantSlipEntry(t, what, h, b, 7, "d1", askOf(t, "ann make new dock fleet 1,2,,,,"), codeAlone(1))
		}
	}
}

func TestSlipsOfDoorsThatAreNoNames(t *testing.T) {
	for _, door := range notNames() {
		for _, a := range anyAsks(t) {
			wantSlipEntry(t, "no door", yardHouse(), hallBooks(), 7, door, a, codeAlone(1))
			wantSlipEntry(t, "no door, and no number", yardHouse(), hallBooks(), 0, door, a, codeAlone(1))
		}
	}
	for _, door := range goodNames() {
		wantSlipEntry(t, "a door", yardHouse(), hallBooks(), 7, door, askOf(t, "ann end web 16"), impl.GateSaid{})
	}
}

// Code 16 comes last: where the number makes no entry, all others are told first.
func TestNumbersOfSlips(t *testing.T) {
	for told, wants := range doneAsks() {
		for _, number := range []int{1, 2, 500000, 500001, impl.HallMaxNumber} {
			e := wantSlipEntry(t, told, yardHouse(), hallBooks(), number, "d1", askOf(t, told), impl.GateSaid{})
			if form := "slip " + count(number) + " d1 3 " + wants + " " + told; impl.HallForm(e) != form {
				t.Errorf("the form is %q, not %q", impl.HallForm(e), form)
			}
		}
		for _, number := range []int{0, -1, impl.HallMaxNumber + 1, 9999999, -1 << 63, 1<<63 - 1} {
			wantSlipEntry(t, told, yardHouse(), hallBooks(), number, "d1", askOf(t, told), codeAlone(16))
		}
	}
	for _, number := range []int{0, impl.HallMaxNumber + 1} {
		wantSlipEntry(t, "none", yardHouse(), hallBooks(), number, "d1", askOf(t, "ann end none 0"), codeAlone(3))
		wantSlipEntry(t, "another version", yardHouse(), hallBooks(), number, "d1", askOf(t, "ann end api 11"), impl.GateSaid{Code: 5, Version: 10})
		wantSlipEntry(t, "a wrong value", yardHouse(), hallBooks(), number, "d1", askOf(t, "ann change web 0 1,2,x,,,"), impl.GateSaid{Code: 7, Place: 2})
		wantSlipEntry(t, "at the end", yardHouse(), atEnds(impl.GateMaxVersion, 70), number, "d1", askOf(t, "ann end web 0"), codeAlone(11))
	}
}

// longHouse has one team and one grant, whose names are as long as can be.
func longHouse() impl.HallHouse {
	return impl.HallHouse{Teams: []impl.GateTeam{{Name: long(16)}}, Grants: []impl.GateGrant{grant(1, long(16), "", openRule())}}
}

// An entry of RecMaxText bytes is one; with a byte more there is none.
func TestHowLongSlipsAre(t *testing.T) {
	h := longHouse()
	made, refused := map[int]int{}, map[int]int{}
	for n := 1; n <= impl.GateMaxName; n++ {
		for _, hold := range []string{"", ",g", ",gg", ",hhhhhhhhhhhhhhhh"} {
			name, door := long(15)+"n", long(n)
			told := long(16) + " make " + name + " " + long(16) + " ffffffffffffffff,fleet" + hold + " 1000,10,10,10,1000000,"
			form := "slip 1000 " + door + " 1 " + name + ":0 " + told
			if len(form) > impl.RecMaxText {
				wantSlipEntry(t, form, h, impl.HallFirst(h), 1000, door, askOf(t, told), codeAlone(16))
				refused[len(form)]++
				continue
			}
			e := wantSlipEntry(t, form, h, impl.HallFirst(h), 1000, door, askOf(t, told), impl.GateSaid{})
			if got := impl.HallForm(e); got != form {
				t.Errorf("the form is %q, not %q", got, form)
			}
			made[len(form)]++
		}
	}
	if made[impl.RecMaxText] == 0 || refused[impl.RecMaxText+1] == 0 {
		t.Errorf("the lengths were %v, and %v were too long", made, refused)
	}
}

// What a mend hides from the gate is written all the same: where it can't be, there is no entry.
func TestAValueThatCannotBeWritten(t *testing.T) {
	a := askOf(t, "ann make new dock fleet 1,1,,,,")
	for _, value := range []string{"!", "a b", "1,2", "A", "*", long(17), "\x00", " ", "-1.5"} {
		a.Values[2] = value
		wantSlipEntry(t, "hidden: "+value, yardHouse(), hallBooks(), 7, "d1", a, codeAlone(16))
		more := a
		more.Values = slices.Clone(a.Values)
		more.Values[1] = "2"
		wantSlipEntry(t, "seen: "+value, yardHouse(), hallBooks(), 7, "d1", more, impl.GateSaid{Code: 7, Place: 2})
	}
	for _, value := range []string{"", "0", "10", "11", "9999999", "12345678", "x", "-", long(16)} {
		a.Values[2] = value
		wantSlipEntry(t, "a name: "+value, yardHouse(), hallBooks(), 7, "d1", a, impl.GateSaid{})
	}
}
