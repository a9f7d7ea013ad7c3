package tests

import (
	"slices"
	"strings"
	"testing"

	"loop.example/wharfhall/impl"
)

// The version of the gate's book, and of the stewards', that the next change of hallBooks has.
const (
	hallGateNext = 31
	hallStewNext = 61
)

func servedIn(b impl.HallBook, name string) impl.StewService {
	if at := stewPlaceByHand(b.Stew, name); at >= 0 {
		return b.Stew.Services[at]
	}
	return impl.StewService{}
}

func objectIn(b impl.HallBook, name string) impl.GateObject {
	if at := placeIn(b.Gate, impl.GateObject{Kind: "service", Name: name}); at >= 0 {
		return b.Gate.Objects[at]
	}
	return impl.GateObject{}
}

// wantServed asks for a service that was just wished for.
func wantServed(t *testing.T, what string, b impl.HallBook, want impl.StewService) {
	t.Helper()
	want.Version = hallStewNext
	if got := servedIn(b, want.Name); got != want || b.Stew.Now != hallStewNext {
		t.Errorf("%s: %+v at %d, not %+v", what, got, b.Stew.Now, want)
	}
}

// wantFleetKept asks that the stewards' book is that of hallBooks.
func wantFleetKept(t *testing.T, what string, b impl.HallBook) {
	t.Helper()
	if !sameStewBook(b.Stew, hallFleet()) {
		t.Errorf("%s: the stewards' book is %s", what, stewTold(b.Stew))
	}
}

func TestTheWishBehindAMake(t *testing.T) {
	for told, want := range map[string]impl.StewService{
		"make new dock fleet 2,4,1,3,,":              {Image: 2, Want: 4, Down: 1, Over: 3},
		"make new dock fleet 2,4,,,,":                {Image: 2, Want: 4, Over: 1},
		"make new gang fleet 9,1,1,2,,":              {Image: 9, Want: 1, Over: 2},
		"make new dock fleet 2,0,,,,":                {Image: 2, Over: 1},
		"make new dock fleet 2,4,1,3,50,":            {Image: 2, Down: 1, Over: 3, Per: 50, Most: 4},
		"make new shed fleet 2,10,10,10,1000000,":    {Image: 2, Down: 10, Over: 10, Per: 1000000, Most: 10},
		"make new dock audit,fleet,tax 2,4,1,3,,":    {Image: 2, Want: 4, Down: 1, Over: 3},
		"make new dock a,fleet 2,4,1,3,,api":         {Image: 2, Want: 4, Down: 1, Over: 3},
		"make new mill fleet,z 1000,10,10,10,,log":   {Image: 1000, Want: 10, Down: 10, Over: 10},
		"make new dock fleet 1,2,0,1,7,web":          {Image: 1, Over: 1, Per: 7, Most: 2},
		"make new yard fleet 1,3,2,1,,":              {Image: 1, Want: 3, Down: 2, Over: 1},
		"make new dock fleet,fleets,fleett 1,3,,1,,": {Image: 1, Want: 3, Over: 1},
	} {
		b := wantDoneText(t, hallBooks(), "slip 1 d1 3 * ann "+told, hallGateNext)
		want.Name, want.Next = "new", 1
		wantServed(t, told, b, want)
		if o := objectIn(b, "new"); !slices.Contains(o.Holds, "fleet") || o.Version != hallGateNext || o.Ending || len(b.Stew.Services) != 7 {
			t.Errorf("%s: %+v among %d services", told, o, len(b.Stew.Services))
		}
	}
	b := wantDoneText(t, hallBooks(), "slip 1 d1 3 wow:0 bob make wow dock fleet 1,1,,,,", hallGateNext)
	wantServed(t, "by bob", b, impl.StewService{Name: "wow", Image: 1, Want: 1, Over: 1, Next: 1})
}

func TestTheWishBehindAChange(t *testing.T) {
	web := impl.StewService{Name: "web", Next: 9}
	for told, want := range map[string]impl.StewService{
		"5,4,1,2,50,":    {Image: 5, Want: 3, Down: 1, Over: 2, Per: 50, Most: 4, Load: 250},
		"5,3,1,2,50,":    {Image: 5, Want: 3, Down: 1, Over: 2, Per: 50, Most: 3, Load: 250},
		"5,2,1,2,50,":    {Image: 5, Want: 2, Down: 1, Over: 2, Per: 50, Most: 2, Load: 250},
		"5,0,1,2,50,":    {Image: 5, Want: 0, Down: 1, Over: 2, Per: 50, Most: 0, Load: 250},
		"5,1,1,2,50,":    {Image: 5, Want: 1, Over: 2, Per: 50, Most: 1, Load: 250},
		"5,4,1,2,,":      {Image: 5, Want: 4, Down: 1, Over: 2},
		"4,6,2,3,100,":   {Image: 4, Want: 3, Down: 2, Over: 3, Per: 100, Most: 6, Load: 250},
		"4,6,2,3,100,db": {},
		"4,6,2,3,,api":   {Image: 4, Want: 6, Down: 2, Over: 3},
		"4,10,2,8,1,":    {Image: 4, Want: 3, Down: 2, Over: 8, Per: 1, Most: 10, Load: 250},
	} {
		text := "slip 1 d1 3 web:16 ann change web 16 " + told
		if want == (impl.StewService{}) {
			wantToText(t, hallBooks(), text, impl.GateSaid{Code: 9, Place: 5})
			continue
		}
		b := wantDoneText(t, hallBooks(), text, hallGateNext)
		want.Name, want.Next = web.Name, web.Next
		wantServed(t, told, b, want)
		if o := objectIn(b, "web"); strings.Join(o.Values[:2], ",") != told[:len(o.Values[0])+1+len(o.Values[1])] || o.Version != hallGateNext {
			t.Errorf("%s: %+v", told, o)
		}
	}
	b := wantDoneText(t, hallBooks(), "slip 1 d1 3 api:10 ann change api 0 1,1,,,7,", hallGateNext)
	wantServed(t, "it follows its load from now on", b, impl.StewService{Name: "api", Image: 1, Want: 1, Over: 1, Next: 4, Per: 7, Most: 1})
}

// What an end, or a change, leaves of a service is its copies and its Next.
func TestTheWishBehindAnEnd(t *testing.T) {
	b := wantDoneText(t, hallBooks(), "slip 1 d1 3 web:16 ann end web 16", hallGateNext)
	wantServed(t, "web", b, impl.StewService{Name: "web", Gone: true, Image: 4, Want: 3, Down: 2, Over: 3, Next: 9, Per: 100, Most: 6, Load: 250})
	b = wantDoneText(t, hallBooks(), "slip 1 d9 3 * ann end api 0", hallGateNext)
	wantServed(t, "api", b, impl.StewService{Name: "api", Gone: true, Image: 1, Want: 2, Over: 1, Next: 4})
	if !slices.Equal(b.Stew.Copies, hallFleet().Copies) || !slices.Equal(objectIn(b, "api").Holds, []string{"fleet"}) || !objectIn(b, "api").Ending {
		t.Errorf("%s", hallTold(b))
	}
}

// The stewards do not hear of rights, or of others' holds.
func TestSlipsWithoutAWish(t *testing.T) {
	for _, told := range []string{
		"letgo web audit", "letgo web tax", "letgo db audit", "letgo late audit",
		"give bob 1 service dock w", "give cyd 12345 * * *", "take 2", "take 1", "take 3",
	} {
		wantFleetKept(t, told, wantDoneText(t, hallBooks(), "slip 9 d1 3 * ann "+told, hallGateNext))
	}
	b := wantDoneText(t, hallBooks(), "slip 9 d1 3 late:14 ann letgo late audit", hallGateNext)
	if o := objectIn(b, "late"); len(o.Holds) != 0 {
		t.Errorf("%+v", o)
	}
	last := turnedHall(func(b *impl.HallBook) { b.Stew.Now = impl.StewMaxNumber })
	for _, told := range []string{"letgo web tax", "give bob 1 service dock w", "take 2"} {
		wantDoneText(t, last, "slip 9 d1 3 * ann "+told, hallGateNext)
	}
}

// The hold of the hall is set by whoever makes an object, and let go by nobody: that is told ahead of all else.
func TestTheHoldOfTheHall(t *testing.T) {
	for _, told := range []string{
		"3 new:0 ann make new dock * 1,2,,,,", "3 new:0 ann make new dock audit 1,2,,,,", "3 new:0 ann make new dock audit,tax 1,2,,,,",
		"3 new:0 ann make new dock flee 1,2,,,,", "3 new:0 ann make new dock fleets 1,2,,,,", "3 new:0 ann make new dock a-fleet,fleet-a 1,2,,,,",
		"3 web:16 ann letgo web fleet", "3 db:12 ann letgo db fleet", "3 * ann letgo gone fleet", "3 * ann letgo late fleet",
		"2 * ann make new dock * 1,2,,,,", "3 new:1 ann make new dock * 1,2,,,,", "3 * ann make new nowhere * 1,2,,,,",
		"3 * ann make new dock tax,audit 1,2,,,,", "3 * ann make api dock * 1,2,,,,", "3 * cyd make new dock * 1,2,,,,",
		"3 * ann make new dock * ,,,,,", "3 * ann make new dock * 1,2,,,,none", "3 * ann make new dock * 1,10,,10,,",
		"2 * ann letgo web fleet", "3 web:1 ann letgo web fleet", "3 * ann letgo none fleet", "3 * cyd letgo web fleet", "3 * bob letgo web fleet",
	} {
		wantToText(t, hallBooks(), "slip 1 d1 "+told, codeAlone(15))
		full := crowdedHall(8, 32)
		full.Gate.Now, full.Stew.Now = impl.GateMaxVersion, impl.StewMaxNumber
		wantToText(t, full, "slip 1 d1 "+told, codeAlone(15))
	}
	// With any other verb the word means nothing.
	wantDoneText(t, hallBooks(), "slip 1 d1 3 * ann give fleet 5 fleet fleet fleet", hallGateNext)
	wantDoneText(t, hallBooks(), "slip 1 fleet 3 fleet:0 ann make fleet mill fleet 1,2,,,,", hallGateNext)
	b := wantDoneText(t, hallBooks(), "slip 1 d1 3 fleet:0 ann make fleet dock fleet 1,2,,,,", hallGateNext)
	b = wantDoneText(t, b, "slip 1 d1 3 * ann change fleet 0 2,2,,,,fleet", hallGateNext+1)
	wantDoneText(t, b, "slip 1 d1 3 * ann end fleet 0", hallGateNext+2)
}

// What GateCommit answers is told as it is, and the books are as they were, with 2, too.
func TestSlipsThatAreNotCommitted(t *testing.T) {
	field := func(code, place int) impl.GateSaid { return impl.GateSaid{Code: code, Place: place} }
	for _, c := range []hallSaid{
		{"d1 3 new:0 ann make new nowhere fleet 1,2,,,,", codeAlone(2)},
		{"d1 3 new:0 ann make new dock fleet,audit 1,2,,,,", codeAlone(2)},
		{"d1 3 new:0 ann make new dock fleet,fleet 1,2,,,,", codeAlone(2)},
		{"d1 3 new:0 ann make new dock a,b,c,fleet 1,2,,,,", codeAlone(2)},
		{"d1 3 a:0,b:0,c:0,d:0,e:0,f:0,g:0,h:0,i:0 ann end web 0", codeAlone(2)},
		{"d1 3 * ann give bob 21 * * *", codeAlone(2)},
		{"d1 3 * ann give bob 6 * * *", codeAlone(2)},
		{"d1 3 * ann give bob 01 * * *", codeAlone(2)},
		{"d1 3 * ann take 0", codeAlone(2)},
		{"d1 3 * ann make api dock fleet 1,2,,,,", codeAlone(3)},
		{"d1 3 * ann change none 0 1,2,,,,", codeAlone(3)},
		{"d1 3 * ann end none 0", codeAlone(3)},
		{"d1 3 * ann letgo none audit", codeAlone(3)},
		{"d1 3 * ann take 4", codeAlone(3)},
		{"d1 3 * cyd end web 0", codeAlone(4)},
		{"d1 3 * bob end web 0", codeAlone(4)},
		{"d1 3 * bob make new dock fleet 1,2,,,,", codeAlone(4)},
		{"d1 3 * bob make wow shed fleet 1,2,,,,", codeAlone(4)},
		{"d1 3 * bob give cyd 1 service dock w", codeAlone(4)},
		{"d1 3 * bob take 1", codeAlone(4)},
		{"d1 3 web:16 ann change web 15 1,2,,,,", impl.GateSaid{Code: 5, Version: 16}},
		{"d1 3 api:10 ann end api 11", impl.GateSaid{Code: 5, Version: 10}},
		{"d1 3 db:12 ann change db 0 1,2,,,,", codeAlone(6)},
		{"d1 3 db:12 ann end db 12", codeAlone(6)},
		{"d1 3 * ann end late 0", codeAlone(6)},
		{"d1 3 * ann change gone 0 1,1,0,1,,", codeAlone(6)},
		{"d1 3 * ann make new dock fleet ,2,,,,", field(7, 0)},
		{"d1 3 * ann make new dock fleet 0,2,,,,", field(7, 0)},
		{"d1 3 * ann make new dock fleet 1,,,,,", field(7, 1)},
		{"d1 3 * ann make new dock fleet 1,11,,,,", field(7, 1)},
		{"d1 3 * ann make new dock fleet 1,2,11,,,", field(7, 2)},
		{"d1 3 * ann change web 0 1,2,,0,,", field(7, 3)},
		{"d1 3 * ann change web 0 1,2,,,0,", field(7, 4)},
		{"d1 3 * ann change web 0 1,2,,,x,none", field(7, 4)},
		{"d1 3 * ann make new dock fleet 1,2,,,,none", field(9, 5)},
		{"d1 3 * ann make new dock fleet 1,2,,,,new", field(9, 5)},
		{"d1 3 * ann change web 0 1,2,,,,gone", field(9, 5)},
		{"d1 3 * ann make new dock fleet 1,9,,1,,", field(10, 0)},
		{"d1 3 * ann make new gang fleet 1,0,,10,,", field(10, 0)},
		{"d2 3 * ann make new shed fleet 1,1,,2,,", field(10, 1)},
		{"d2 3 * ann make new shed fleet 1,1,,1,,", field(10, 2)},
		{"d3 3 * ann change web 0 4,6,2,4,100,", field(10, 0)},
		{"d1 3 * ann letgo api audit", codeAlone(11)},
		{"d1 3 * ann letgo gone audit", codeAlone(11)},
		{"d1 2 * ann end web 0", codeAlone(12)},
		{"d1 4 * ann end none 0", codeAlone(12)},
		{"d1 3 web:15 ann end web 0", field(12, 1)},
		{"d1 3 new:0,web:16,gone:0 ann make new dock fleet 1,2,,,,", field(12, 3)},
		{"d1 3 none:1 ann take 9", field(12, 1)},
	} {
		wantToText(t, hallBooks(), "slip 7 "+c.text, c.said)
	}
	// What is not more costs nothing, through any door.
	wantDoneText(t, hallBooks(), "slip 1 d9 3 * ann change web 0 9,6,2,3,100,", hallGateNext)
	wantDoneText(t, hallBooks(), "slip 1 d9 3 * ann change web 0 9,3,2,1,100,", hallGateNext)
	wantDoneText(t, hallBooks(), "slip 1 d9 3 * ann make new mill fleet 9,10,,10,,", hallGateNext)
}

// The stewards' book has room for eight services, the gate's for forty objects.
func TestANinthService(t *testing.T) {
	text := "slip 1 d1 3 new:0 ann make new dock fleet 1,2,,,,"
	for n := range impl.StewMaxServices {
		wantDoneText(t, crowdedHall(n, 0), text, 10)
		wantDoneText(t, crowdedHall(n, 39-n), text, 10)
		wantToText(t, crowdedHall(n, 40-n), text, codeAlone(11))
	}
	for _, others := range []int{0, 1, 31} {
		wantToText(t, crowdedHall(8, others), text, undone(2))
	}
	wantToText(t, crowdedHall(8, 32), text, codeAlone(11))
	wantToText(t, crowdedHall(8, 0), "slip 1 d1 3 new:0 cyd make new dock fleet 1,2,,,,", codeAlone(4))
	wantToText(t, crowdedHall(8, 0), "slip 1 d1 3 new:1 ann make new dock fleet 1,2,,,,", impl.GateSaid{Code: 12, Place: 1})
	// Those that are there may turn.
	b := wantDoneText(t, crowdedHall(8, 32), "slip 1 d1 3 * ann change n107 0 7,3,,,,", 10)
	b = wantDoneText(t, b, "slip 1 d1 3 * ann end n107 0", 11)
	if s := servedIn(b, "n107"); !s.Gone || s.Want != 3 || len(b.Stew.Services) != 8 {
		t.Errorf("%+v", s)
	}
	// A place is free when the service is dropped, though the object is still there.
	b = wantDoneText(t, b, "act 1 n107 11 0 * * drop", 12)
	wantDoneText(t, turnedObjects(b, 39), text, 13)
}

// turnedObjects leaves only so many objects, the last of which go.
func turnedObjects(b impl.HallBook, n int) impl.HallBook {
	b.Gate.Objects = b.Gate.Objects[:n]
	return b
}

// A name that is free again is that of a new service, whose first copy has the Number 1.
func TestAServiceThatComesAgain(t *testing.T) {
	again := "slip 1 d1 3 * ann make old dock fleet 5,2,,,,"
	b := hallBooks()
	for i, text := range []string{"act 1 old 53 0 * 2:23 *", "sea 1 tick", "act 1 old 61 0 * * drop"} {
		wantToText(t, b, again, codeAlone(3))
		b = wantDoneText(t, b, text, hallStewNext+i)
	}
	wantToText(t, b, again, codeAlone(3))
	b = wantDoneText(t, b, "sweep 1", 0)
	b = wantDoneText(t, b, again, b.Gate.Now+1)
	if s := servedIn(b, "old"); s != (impl.StewService{Name: "old", Version: b.Stew.Now, Image: 5, Want: 2, Over: 1, Next: 1}) {
		t.Errorf("%+v", s)
	}
}
