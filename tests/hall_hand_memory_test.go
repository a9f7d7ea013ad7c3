package tests

import (
	"testing"

	"loop.example/wharfhall/impl"
)

// handCase is all that the functions of texts and hands are given but the number.
type handCase struct {
	h     impl.HallHouse
	texts []string
	book  impl.HallBook
	ask   impl.GateAsk
}

// handAnswer is all that they answer.
type handAnswer struct {
	State impl.HallBook
	Told  []impl.GateSaid
	Slip  impl.HallEntry
	Said  impl.GateSaid
	Acts  [][]impl.HallEntry
	Next  impl.HallEntry
	Ok    bool
}

func (c handCase) answer(number int) handAnswer {
	out := handAnswer{State: impl.HallState(c.h, c.texts)}
	for _, text := range c.texts {
		said, _ := impl.HallTold(c.h, c.texts, text)
		out.Told = append(out.Told, said)
	}
	out.Slip, out.Said = impl.HallSlipOf(c.h, c.book, number, "d1", c.ask)
	for steward := range 8 {
		out.Acts = append(out.Acts, impl.HallActs(c.h, c.book, steward))
	}
	out.Next, out.Ok = impl.HallNext(c.h, c.book, number)
	return out
}

// handCases have texts and books of each sort, and asks of each verb.
func handCases(t *testing.T) map[string]handCase {
	t.Helper()
	out := map[string]handCase{
		"nothing":         {},
		"a wrong house":   {h: spoiledHouse(0, func(g *impl.GateGrant) { g.By = "ann" }), texts: dayTexts(), book: hallBooks(), ask: askOf(t, "ann end web 0")},
		"a wrong book":    {h: yardHouse(), texts: unreadTexts(), book: turnedHall(func(b *impl.HallBook) { b.Stew.Services[0].Want++ }), ask: askOf(t, "ann end web 0")},
		"a meddling ask":  {h: yardHouse(), texts: dayTexts()[:9], book: hallBooks(), ask: askOf(t, "ann letgo web fleet")},
		"too long to end": {h: yardHouse(), texts: dayTexts()[:1], book: manyHall("web", 100, true), ask: askOf(t, "ann end web 0")},
		"several to end":  {h: yardHouse(), texts: append(dayTexts(), dayTexts()...), book: hallOf(goneFleet(25)), ask: askOf(t, "ann take 1")},
		"at rest":         {h: yardHouse(), texts: dayTexts()[:20], book: restHall(), ask: askOf(t, "ann give bob 12 * * *")},
	}
	for what, b := range sweepHalls() {
		out[what] = handCase{yardHouse(), dayTexts(), b, askOf(t, "ann make new dock audit,fleet 1,2,,,,")}
	}
	for _, c := range crewCares() {
		out["a crew: "+c.form] = handCase{yardHouse(), dayTexts()[:25], hallOf(c.stew), askOf(t, "ann change web 8 1,2,,,,")}
	}
	for told := range doneAsks() {
		out[told] = handCase{yardHouse(), dayTexts()[:15], hallBooks(), askOf(t, told)}
	}
	return out
}

func TestNoHandIsWrittenInto(t *testing.T) {
	t.Parallel()
	for what, plain := range handCases(t) {
		c := handCase{withRoom(plain.h), withRoom(plain.texts), withRoom(plain.book), withRoom(plain.ask)}
		house, texts, book, ask := opened(c.h), opened(c.texts), opened(c.book), opened(c.ask)
		for _, number := range []int{7, 0} {
			got := c.answer(number)
			wantUntouched(t, what, c.h, house)
			wantUntouched(t, what, c.texts, texts)
			wantUntouched(t, what, c.book, book)
			wantUntouched(t, what, c.ask, ask)
			if want := plain.answer(number); !sameWhole(got, want) {
				t.Errorf("%s: with room behind the lists it is %+v, not %+v", what, got, want)
			}
		}
	}
}

func TestHandsShareNoMemory(t *testing.T) {
	t.Parallel()
	acts, slips, nexts := 0, 0, 0
	for what, plain := range handCases(t) {
		c := handCase{withRoom(plain.h), withRoom(plain.texts), withRoom(plain.book), withRoom(plain.ask)}
		got := c.answer(7)
		wantApart(t, what, []handAnswer{got, c.answer(7)}, c.h, c.texts, c.book, c.ask)
		for _, list := range got.Acts {
			acts += len(list)
		}
		slips += len(got.Slip.Slip.Wants)
		nexts += len(got.Next.Act.Ends)
	}
	if acts < 50 || slips < 15 || nexts < 20 {
		t.Errorf("there were %d acts, %d wants of slips, %d ends of what is next", acts, slips, nexts)
	}
}

// One list may be there twice in what is given; the answer has two.
func TestHandsOfWhatIsSharedAlready(t *testing.T) {
	list := []string{"audit", "fleet", "1", "2", "", "", "", ""}
	a := askOf(t, "ann make new dock audit,fleet 1,2,,,,")
	a.Holds, a.Values = list[:2], list[2:]
	got, said := impl.HallSlipOf(yardHouse(), hallBooks(), 7, "d1", a)
	if said.Code != 0 {
		t.Fatal(said)
	}
	wantApart(t, "an ask", got, a)
	form := impl.HallForm(got)
	list[0], list[2] = "x", "9"
	if impl.HallForm(got) != form {
		t.Errorf("%q has become %q with the ask", form, impl.HallForm(got))
	}
	h := yardHouse()
	h.Grants[1].Rule.Verbs = h.Grants[0].Rule.Verbs[:2]
	wantApart(t, "a house", impl.HallState(h, dayTexts()), h)
	wantApart(t, "a house, and no texts", impl.HallState(h, nil), h)
}

// The same call gives the same answer again, whatever was asked between, and though the answer is spoiled.
func TestHandsKeepNothing(t *testing.T) {
	t.Parallel()
	cases := handCases(t)
	for what, c := range cases {
		first := c.answer(7)
		kept := withRoom(first)
		for _, other := range []string{"too long to end", "a wrong book", "going alone"} {
			cases[other].answer(8)
		}
		spoilEntry(&first.Slip)
		spoilEntry(&first.Next)
		for _, list := range first.Acts {
			for i := range list {
				spoilEntry(&list[i])
				list[i].Kind = 77
			}
		}
		for i := range first.State.Gate.Objects {
			first.State.Gate.Objects[i].Values[0] = "spoiled"
		}
		if again := c.answer(7); !sameWhole(again, kept) {
			t.Errorf("%s: %+v, then %+v", what, kept, again)
		}
	}
}
