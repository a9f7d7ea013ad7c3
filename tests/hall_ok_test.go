package tests

import (
	"reflect"
	"slices"
	"testing"

	"loop.example/wharfhall/impl"
)

func TestHallBooksThatAreOk(t *testing.T) {
	wantHallOk(t, "the hall's books", yardHouse(), hallBooks(), true)
	for what, h := range okHouses() {
		wantHallOk(t, "first of "+what, h, impl.HallFirst(h), true)
		wantHallOk(t, "nothing, in "+what, h, impl.HallBook{}, true)
		wantHallOk(t, "empty lists, in "+what, h, withRoom(impl.HallBook{}), true)
	}
	for n := range impl.StewMaxServices + 1 {
		for _, others := range []int{0, 1, impl.GateMaxObjects - n} {
			wantHallOk(t, count(n)+" and "+count(others), yardHouse(), crowdedHall(n, others), true)
		}
	}
	wantHallOk(t, "one object too many", yardHouse(), crowdedHall(8, 33), false)
	wantHallOk(t, "a service too many", yardHouse(), crowdedHall(9, 0), false)
}

func TestHallBooksOfHousesThatAreNotOk(t *testing.T) {
	for what, h := range wrongHouses() {
		wantHallOk(t, what, h, impl.HallBook{}, false)
		wantHallOk(t, what, h, hallBooks(), false)
		wantHallOk(t, what, h, impl.HallFirst(yardHouse()), false)
	}
}

// The books are asked for by the law of this house: by that of another one they may not be ok.
func TestHallBooksOfAnotherHouse(t *testing.T) {
	wantHallOk(t, "without teams", impl.HallHouse{}, hallBooks(), false)
	wantHallOk(t, "without grants", impl.HallHouse{Teams: yardTeams()}, hallBooks(), true)
	other := impl.HallHouse{Teams: slices.DeleteFunc(yardTeams(), func(team impl.GateTeam) bool { return team.Name == "gang" })}
	wantHallOk(t, "without gang", other, hallBooks(), false)
	loose := impl.HallHouse{Teams: yardTeams()}
	loose.Teams[1].Over = ""
	wantHallOk(t, "gang on its own, which turns sums", loose, hallBooks(), false)
}

// gateSpoilers each turn one thing of the gate's book of the hall wrong.
func gateSpoilers() map[string]func(b *impl.GateBook) {
	return map[string]func(b *impl.GateBook){
		"Now -1":                      func(b *impl.GateBook) { b.Now = -1 },
		"Now above all":               func(b *impl.GateBook) { b.Now = impl.GateMaxVersion + 1 },
		"Now before a version":        func(b *impl.GateBook) { b.Now = 29 },
		"Tick -1":                     func(b *impl.GateBook) { b.Tick = -1 },
		"Given above Now":             func(b *impl.GateBook) { b.Given = 31 },
		"Given below a grant":         func(b *impl.GateBook) { b.Given = 2 },
		"a Free that is more":         func(b *impl.GateBook) { b.Ledgers[0].Free++ },
		"a Most that is less":         func(b *impl.GateBook) { b.Ledgers[2].Most-- },
		"a purse of no ledger":        func(b *impl.GateBook) { b.Purses[0].Resource = "tons" },
		"a purse that lasts too long": func(b *impl.GateBook) { b.Purses[0].Until = 16 },
		"objects turned around":       func(b *impl.GateBook) { b.Objects[2], b.Objects[3] = b.Objects[3], b.Objects[2] },
		"another kind":                func(b *impl.GateBook) { b.Objects[hallLate].Kind = "crane" },
		"a link to nothing":           func(b *impl.GateBook) { b.Objects[hallLate].Values[5] = "none" },
		"a value that does not fit":   func(b *impl.GateBook) { b.Objects[hallLate].Values[0] = "1001" },
		"a value that would be set":   func(b *impl.GateBook) { b.Objects[hallLate].Values[2] = "" },
		"a value that would be mended": func(b *impl.GateBook) {
			b.Objects[hallLate].Values[1], b.Objects[hallLate].Values[2] = "1", "1"
		},
		"a value too many": func(b *impl.GateBook) { b.Objects[hallLate].Values = make([]string, 7) },
		"a hold too many":  func(b *impl.GateBook) { b.Objects[hallWeb].Holds = append(b.Objects[hallWeb].Holds, "zoo") },
		"a team that is none": func(b *impl.GateBook) {
			b.Objects[hallLate].Team = "nowhere"
		},
		"a rule that is not ok": func(b *impl.GateBook) { b.Grants[1].Rule.Verbs = verbs(6) },
	}
}

func TestHallBooksWhoseGateIsNotOk(t *testing.T) {
	for what, spoil := range gateSpoilers() {
		wantHallOk(t, what, yardHouse(), turnedHall(func(b *impl.HallBook) { spoil(&b.Gate) }), false)
	}
	for what, b := range wrongBooks() {
		wantHallOk(t, what, yardHouse(), impl.HallBook{Gate: b}, false)
	}
	// A book of another law is not ok by this one.
	wantHallOk(t, "the store's book", yardHouse(), impl.HallBook{Gate: storeBook()}, false)
}

func TestHallBooksWhoseFleetIsNotValid(t *testing.T) {
	for what, b := range wrongStewBooks() {
		wantHallOk(t, what, yardHouse(), impl.HallBook{Stew: b}, false)
	}
	for what, spoil := range map[string]func(b *impl.StewBook){
		"Now -1":                func(b *impl.StewBook) { b.Now = -1 },
		"Now before a service":  func(b *impl.StewBook) { b.Now = 53 },
		"Now above all":         func(b *impl.StewBook) { b.Now = impl.StewMaxNumber + 1 },
		"too cool":              func(b *impl.StewBook) { b.Services[servedWeb].Cool = 4 },
		"Next is there":         func(b *impl.StewBook) { b.Services[servedWeb].Next = 8 },
		"a version 0":           func(b *impl.StewBook) { b.Services[servedZip].Version = 0 },
		"copies turned around":  func(b *impl.StewBook) { b.Copies[0], b.Copies[1] = b.Copies[1], b.Copies[0] },
		"a berth that is gone":  func(b *impl.StewBook) { b.Berths = b.Berths[1:] },
		"berths turned around":  func(b *impl.StewBook) { slices.Reverse(b.Berths) },
		"a copy without a name": func(b *impl.StewBook) { b.Copies[3].Service = "" },
		"services the other way round": func(b *impl.StewBook) {
			slices.Reverse(b.Services)
			b.Copies = nil
		},
	} {
		wantHallOk(t, what, yardHouse(), turnedHall(func(b *impl.HallBook) { spoil(&b.Stew) }), false)
	}
}

// tieTurns each turn the tie of the two books, of which each stays ok by itself.
func tieTurns() map[string]func(b *impl.HallBook) {
	plain := impl.StewService{Version: 5, Image: 1, Want: 2, Over: 1, Next: 1}
	more := func(name string) func(b *impl.HallBook) {
		return func(b *impl.HallBook) {
			plain.Name = name
			b.Stew.Services = append(b.Stew.Services, plain)
			slices.SortFunc(b.Stew.Services, func(x, y impl.StewService) int { return map[bool]int{true: -1, false: 1}[x.Name < y.Name] })
		}
	}
	without := func(at int) func(b *impl.HallBook) {
		return func(b *impl.HallBook) {
			name := b.Stew.Services[at].Name
			b.Stew.Services = slices.Delete(b.Stew.Services, at, at+1)
			b.Stew.Copies = slices.DeleteFunc(b.Stew.Copies, func(c impl.StewCopy) bool { return c.Service == name })
		}
	}
	return map[string]func(b *impl.HallBook){
		"a service of nothing":              more("new"),
		"a service ahead of all objects":    more("0"),
		"a service behind all objects":      more("zoo"),
		"a service of a long name":          more(long(20)),
		"a service of what has no hold":     more("gone"),
		"a service of what others hold":     more("late"),
		"the first service is gone":         without(0),
		"a service is gone":                 without(2),
		"the last service is gone":          without(servedZip),
		"all services are gone":             func(b *impl.HallBook) { b.Stew.Services, b.Stew.Copies = nil, nil },
		"the hold at what has no service":   func(b *impl.HallBook) { b.Gate.Objects[hallGone].Holds = []string{"fleet"} },
		"the hold beside another's":         func(b *impl.HallBook) { b.Gate.Objects[hallLate].Holds = []string{"audit", "fleet"} },
		"the hold is gone":                  func(b *impl.HallBook) { b.Gate.Objects[0].Holds = nil },
		"the hold is gone from an Ending":   func(b *impl.HallBook) { b.Gate.Objects[5].Holds = nil },
		"the hold is gone, others are not":  func(b *impl.HallBook) { b.Gate.Objects[hallWeb].Holds = []string{"audit", "tax"} },
		"the hold has another name":         func(b *impl.HallBook) { b.Gate.Objects[0].Holds = []string{"flee"} },
		"the hold has a longer name":        func(b *impl.HallBook) { b.Gate.Objects[0].Holds = []string{"fleets"} },
		"without the hold and not Ending":   func(b *impl.HallBook) { b.Gate.Objects[hallGone].Ending = false },
		"held by others and not Ending":     func(b *impl.HallBook) { b.Gate.Objects[hallLate].Ending = false },
		"Ending, and its service not Gone":  func(b *impl.HallBook) { b.Gate.Objects[0].Ending = true },
		"Gone, and its object not Ending":   func(b *impl.HallBook) { b.Stew.Services[0].Gone = true },
		"the object asks for another image": func(b *impl.HallBook) { b.Gate.Objects[0].Values[0] = "2" },
		"the object lets more be down":      func(b *impl.HallBook) { b.Gate.Objects[hallWeb].Values[2] = "3" },
		"the object bears another load":     func(b *impl.HallBook) { b.Gate.Objects[hallWeb].Values[4] = "99" },
		"the object follows no load":        func(b *impl.HallBook) { b.Gate.Objects[hallWeb].Values[4] = "" },
		"the object follows its load":       func(b *impl.HallBook) { b.Gate.Objects[0].Values[4] = "100" },
	}
}

func TestHallBooksThatAreNotTied(t *testing.T) {
	for what, turn := range tieTurns() {
		b := turnedHall(turn)
		wantBook(t, what, impl.HallLaw(yardHouse()), b.Gate, true)
		wantValid(t, what, b.Stew, true)
		wantHallOk(t, what, yardHouse(), b, false)
	}
	// What weighs otherwise is tied anew by its ledgers, but not by its service.
	for at, value := range map[int]string{1: "3", 3: "2"} {
		b := turnedHall(func(b *impl.HallBook) { b.Gate.Objects[0].Values[at] = value })
		b.Gate = balanced(impl.HallLaw(yardHouse()), b.Gate)
		wantBook(t, value, impl.HallLaw(yardHouse()), b.Gate, true)
		wantHallOk(t, value, yardHouse(), b, false)
	}
}

// Whom an object is of, and who else holds it, the stewards do not ask.
func TestWhatTiesNothing(t *testing.T) {
	for what, turn := range map[string]func(b *impl.HallBook){
		"of another":         func(b *impl.HallBook) { b.Gate.Objects[0].Values[5] = "late" },
		"of itself":          func(b *impl.HallBook) { b.Gate.Objects[0].Values[5] = "api" },
		"of nobody":          func(b *impl.HallBook) { b.Gate.Objects[hallLog].Values[5] = "" },
		"more holds":         func(b *impl.HallBook) { b.Gate.Objects[0].Holds = []string{"a", "fleet", "z"} },
		"fewer holds":        func(b *impl.HallBook) { b.Gate.Objects[hallWeb].Holds = []string{"fleet"} },
		"another version":    func(b *impl.HallBook) { b.Gate.Objects[0].Version = 1 },
		"no purses":          func(b *impl.HallBook) { b.Gate.Purses, b.Gate.Ledgers = nil, nil },
		"no grants":          func(b *impl.HallBook) { b.Gate.Grants = nil },
		"no copies":          func(b *impl.HallBook) { b.Stew.Copies = nil },
		"no berths":          func(b *impl.HallBook) { b.Stew.Copies, b.Stew.Berths = nil, nil },
		"the gate's last":    func(b *impl.HallBook) { b.Gate.Now = impl.GateMaxVersion },
		"the stewards' last": func(b *impl.HallBook) { b.Stew.Now = impl.StewMaxNumber },
	} {
		wantHallOk(t, what, yardHouse(), turnedHall(turn), true)
	}
}

// servedTurns are other values of each part of a service, with which the book stays valid.
func servedTurns() map[string][]any {
	return map[string][]any{
		"Name":    {"apj", "a", "b"},
		"Version": {1, 49, 60},
		"Gone":    {true},
		"Image":   {2, 1000, 1000000},
		"Want":    {0, 1, 3, 10},
		"Down":    {1, 10},
		"Over":    {2, 10},
		"Next":    {5, 1000000},
		"Per":     {1, 100},
	}
}

// A service may differ from what its object asks for in its Version and Next, and in nothing else.
func TestPartsOfAServiceThatFollowsNoLoad(t *testing.T) {
	free := []string{"Version", "Next"}
	for part, values := range servedTurns() {
		for _, value := range values {
			b := turnedHall(func(b *impl.HallBook) {
				s := &b.Stew.Services[servedApi]
				was := s.Name
				reflect.ValueOf(s).Elem().FieldByName(part).Set(reflect.ValueOf(value))
				for i, c := range b.Stew.Copies {
					if c.Service == was {
						b.Stew.Copies[i].Service = s.Name
					}
				}
			})
			wantValid(t, part, b.Stew, true)
			wantHallOk(t, part, yardHouse(), b, slices.Contains(free, part))
		}
	}
}

// One that follows its load may differ in its Cool, too; and whatever Load it bears, and whatever Want of at most Most
// the stewards gave it, is as its object asks for it.
func TestPartsOfAServiceThatFollowsItsLoad(t *testing.T) {
	for part, values := range map[string]struct{ good, bad []any }{
		"Version": {[]any{1, 52, 60}, nil},
		"Next":    {[]any{10, 1000000}, nil},
		"Cool":    {[]any{0, 1, 3}, nil},
		"Load":    {[]any{0, 1, 251, 1000000}, nil},
		"Want":    {[]any{0, 1, 2, 4, 5, 6}, []any{7, 8, 10}},
		"Gone":    {nil, []any{true}},
		"Image":   {nil, []any{1, 3, 5, 1000000}},
		"Down":    {nil, []any{0, 1, 3, 10}},
		"Over":    {nil, []any{0, 2, 4, 10}},
		"Per":     {nil, []any{1, 99, 101, 1000000}},
		"Least":   {nil, []any{1, 3, 6}},
		"Most":    {nil, []any{3, 5, 7, 10}},
	} {
		for _, value := range append(values.good, values.bad...) {
			b := turnedHall(func(b *impl.HallBook) {
				reflect.ValueOf(&b.Stew.Services[servedWeb]).Elem().FieldByName(part).Set(reflect.ValueOf(value))
			})
			wantValid(t, part, b.Stew, true)
			wantHallOk(t, part, yardHouse(), b, slices.Contains(values.good, value))
		}
	}
}
