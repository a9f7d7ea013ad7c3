package tests

import (
	"testing"

	"loop.example/wharfhall/impl"
)

// hallCase is all that HallDo is given but the house.
type hallCase struct {
	book  impl.HallBook
	entry impl.HallEntry
}

// memoryBrought are entries that are done, and ones that are refused with each code, at each place where they may be.
func memoryBrought(t *testing.T) map[string]hallCase {
	t.Helper()
	out := map[string]hallCase{"nothing": {}}
	all := oneRefused()
	for text := range oneOfEach() {
		all = append(all, text)
	}
	for _, text := range all {
		e := readEntry(t, text)
		for what, b := range map[string]impl.HallBook{
			"":                        hallBooks(),
			", first":                 impl.HallFirst(yardHouse()),
			", at the gate's end":     atEnds(impl.GateMaxVersion, 70),
			", at the stewards' end":  atEnds(70, impl.StewMaxNumber),
			", in a crowd":            crowdedHall(8, 31),
			", of one that owns many": ownedHall(7),
			", not tied":              turnedHall(func(b *impl.HallBook) { b.Stew.Services[0].Want++ }),
		} {
			out[text+what] = hallCase{b, e}
		}
		out[text+", without a form"] = hallCase{hallBooks(), withNumber(e, "Number", 0)}
	}
	return out
}

func TestNoHallIsWrittenInto(t *testing.T) {
	for what, c := range memoryBrought(t) {
		h, b, e := withRoom(yardHouse()), withRoom(c.book), withRoom(c.entry)
		houseBefore, bookBefore, entryBefore := opened(h), opened(b), opened(e)
		impl.HallOk(h, b)
		got, said := impl.HallDo(h, b, e)
		for i, o := range b.Gate.Objects {
			impl.HallService(o, impl.StewService{Want: i})
		}
		wantUntouched(t, what, h, houseBefore)
		wantUntouched(t, what, b, bookBefore)
		wantUntouched(t, what, e, entryBefore)
		if want, plain := impl.HallDo(yardHouse(), c.book, c.entry); plain != said || !sameHall(got, want) {
			t.Errorf("%s: with room behind the lists it is %+v, %s", what, said, hallTold(got))
		}
	}
}

func TestAHallSharesNoMemory(t *testing.T) {
	codes := map[int]int{}
	for what, c := range memoryBrought(t) {
		h, b, e := withRoom(yardHouse()), withRoom(c.book), withRoom(c.entry)
		got, said := impl.HallDo(h, b, e)
		again, _ := impl.HallDo(h, b, e)
		wantApart(t, what, []impl.HallBook{got, again}, h, b, e)
		codes[said.Code]++
	}
	for _, code := range []int{0, 1, 2, 3, 4, 11, 12, 14, 15} {
		if codes[code] == 0 {
			t.Errorf("no entry has the code %d", code)
		}
	}
}

// One list may be there twice in what is given; the books have two.
func TestAHallOfWhatIsSharedAlready(t *testing.T) {
	b := hallBooks()
	list := []string{"fleet", "tax", "", "", "", ""}
	b.Gate.Objects[0].Holds, b.Gate.Objects[hallLog].Holds = list[:1], list[:1]
	b.Gate.Grants[2].Rule.Verbs = b.Gate.Grants[0].Rule.Verbs[2:3]
	for text := range oneOfEach() {
		got, said := impl.HallDo(yardHouse(), b, readEntry(t, text))
		if said.Code != 0 {
			t.Errorf("%s: %+v", text, said)
		}
		wantApart(t, text, got, b)
	}
	e := readEntry(t, "slip 1 d1 3 new:0 ann make new dock fleet,tax 1,2,0,1,,")
	shared := append([]string{"fleet", "tax"}, e.Slip.Ask.Values...)
	e.Slip.Ask.Holds, e.Slip.Ask.Values = shared[:2], shared[2:]
	got, said := impl.HallDo(yardHouse(), b, e)
	if said.Code != 0 {
		t.Fatal(said)
	}
	wantApart(t, "an ask", got, b, e)
	shared[0], shared[2] = "x", "9"
	if o := objectIn(got, "new"); o.Holds[0] != "fleet" || o.Values[0] != "1" {
		t.Errorf("the books have changed with the entry: %+v", o)
	}
}

// The same call gives the same answer again, whatever was asked between.
func TestAHallKeepsNothing(t *testing.T) {
	cases := memoryBrought(t)
	for what, c := range cases {
		got, said := impl.HallDo(yardHouse(), c.book, c.entry)
		kept, ok := hallCopy(got), impl.HallOk(yardHouse(), c.book)
		for text := range oneOfEach() {
			impl.HallDo(yardHouse(), got, readEntry(t, text))
		}
		impl.HallDo(impl.HallHouse{Teams: manyTeams(3)}, impl.HallBook{}, c.entry)
		again, same := impl.HallDo(yardHouse(), c.book, c.entry)
		if said != same || !sameHall(got, kept) || !sameHall(again, kept) || ok != impl.HallOk(yardHouse(), c.book) {
			t.Errorf("%s: %+v, %s, then %+v, %s", what, said, hallTold(got), same, hallTold(again))
		}
	}
}
