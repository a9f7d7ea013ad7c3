package tests

import (
	"slices"
	"strings"
	"testing"

	"loop.example/wharfhall/impl"
)

// textRow is a row of texts in a drawn house, as they might come to stand there: entries that were worth asking for, ones
// that come late, ones that come again, and texts that are none. states are the books that its beginnings lead to, by the
// document's words, from the one with no texts on; told is what is said to those that count.
type textRow struct {
	row    *hallRow
	texts  []string
	states []impl.HallBook
	told   map[string]impl.GateSaid
}

// newTextRow has no texts yet.
func newTextRow(h impl.HallHouse) *textRow {
	first := impl.HallFirst(h)
	return &textRow{row: &hallRow{h: h, books: []impl.HallBook{first}}, states: []impl.HallBook{first}, told: map[string]impl.GateSaid{}}
}

// drawnRow has n texts, and some ahead of them with which a house begins.
func drawnRow(d *dice, n int) *textRow {
	r := newTextRow(diceHouse(d))
	r.row.quiet = d.below(3) == 0
	if d.below(3) > 0 {
		r.crowd(d)
	}
	for i := range d.below(4) {
		r.put(oneOf(d, "sea "+count(1+i)+" raise "+oneOf(d, diceBerths...), "bound "+count(1+i)+" "+oneOf(d, r.row.h.Teams...).Name+" copies "+count(5+d.below(40))))
	}
	for range n {
		r.put(r.draw(d))
	}
	return r
}

// crowd asks for services ahead of all bounds, some of them owned by others, and ends one that may own some.
func (r *textRow) crowd(d *dice) {
	made := 2 + d.below(7)
	begin := func(i int) string { return "slip " + count(i) + " d1 " + count(len(r.row.h.Grants)) + " * ann " }
	for i := range made {
		of := oneOf(d, "", "", diceHallNames[d.below(max(1, i))])
		r.put(begin(1+i) + "make " + diceHallNames[i] + " " + oneOf(d, r.row.h.Teams...).Name + " fleet" + oneOf(d, "", ",tax") + " 1," + count(d.below(3)) + ",,,," + of)
	}
	if d.below(2) == 0 {
		r.put(begin(99) + "end " + diceHallNames[d.below(made)] + " 0")
	}
}

func (r *textRow) put(text string) {
	b, said, counts := broughtByHand(r.row.h, r.states[len(r.states)-1], r.texts, text)
	if counts {
		r.told[text] = said
	}
	if counts && said.Code == 0 {
		r.row.books = append(r.row.books, b)
	}
	r.texts, r.states = append(r.texts, text), append(r.states, b)
}

// draw is a text that might come next.
func (r *textRow) draw(d *dice) string {
	if len(r.texts) > 0 && d.below(8) == 0 {
		return oneOf(d, r.texts[len(r.texts)-1], oneOf(d, r.texts...), oneOf(d, r.texts...))
	}
	switch d.below(14) {
	case 0:
		return oneOf(d, "", "no entry", turnText(d, r.entry(d)), strings.Repeat("x", 161), r.entry(d)+" ")
	case 1, 2, 3:
		e, _ := impl.HallNext(r.row.h, r.row.older(d), 1000+len(r.texts))
		return impl.HallForm(e)
	case 4:
		view := oneOf(d, r.states...)
		e, _ := impl.HallSlipOf(r.row.h, view, 2000+len(r.texts), oneOf(d, diceDoors[:3]...), r.row.diceHallAsk(d, view))
		return impl.HallForm(e)
	case 5, 6:
		if acts := impl.HallActs(r.row.h, r.row.older(d), 1+d.below(6)); len(acts) > 0 {
			return impl.HallForm(oneOf(d, acts...))
		}
	}
	return r.entry(d)
}

func (r *textRow) entry(d *dice) string {
	return impl.HallForm(r.row.diceHallEntry(d))
}

// with is texts with one more, at a place.
func with(texts []string, at int, text string) []string {
	return slices.Insert(slices.Clone(texts), at, text)
}

// What the beginnings of drawn rows lead to, and what is told to each text of them, is what the document's words say.
func TestDrawnRowsOfTexts(t *testing.T) {
	t.Parallel()
	d := &dice{state: 3201}
	seen := map[string]int{}
	for range 60 {
		r := drawnRow(d, 70)
		for n := range len(r.texts) + 1 {
			wantState(t, "a beginning", r.row.h, r.texts[:n], r.states[n])
		}
		for i, text := range r.texts {
			said, counts := r.told[text]
			for _, texts := range [][]string{r.texts[:i+1], r.texts} {
				if got, ok := impl.HallTold(r.row.h, texts, text); ok != counts || got != said {
					t.Errorf("HallTold of %q among %q is %+v, %v, not %+v, %v", text, texts, got, ok, said, counts)
				}
			}
			again := slices.Contains(r.texts[:i], text)
			seen[map[bool]string{true: "again", false: "new"}[again]]++
			seen[map[bool]string{true: "read", false: "unread"}[counts]]++
			seen["code "+count(said.Code)]++
		}
		if t.Failed() {
			return
		}
	}
	wantSeen(t, seen, 30, "again", "new", "read", "unread", "code 0", "code 2", "code 3", "code 10", "code 12", "code 14", "code 15")
}

// Promise 36, over drawn rows: a text that stands among a beginning comes again at any place behind, and nothing is changed.
func TestDrawnTextsThatComeAgain(t *testing.T) {
	t.Parallel()
	d := &dice{state: 3202}
	refused := 0
	for range 60 {
		r := drawnRow(d, 60)
		h, whole := r.row.h, r.states[len(r.texts)]
		for n := 1; n <= len(r.texts); n++ {
			text := oneOf(d, r.texts[:n]...)
			wantState(t, "again", h, with(r.texts[:n], n, text), r.states[n])
			wantState(t, "again, in the row", h, with(r.texts, n, text), whole)
			said, counts := r.told[text]
			other := oneOf(d, r.texts...)
			otherSaid, otherCounts := r.told[other]
			texts := with(r.texts, n, text)
			if got, ok := impl.HallTold(h, texts, text); ok != counts || got != said {
				t.Errorf("%q is told %+v, %v, and was told %+v, %v", text, got, ok, said, counts)
			}
			if got, ok := impl.HallTold(h, texts, other); ok != otherCounts || got != otherSaid {
				t.Errorf("with %q again %q is told %+v, %v, and was told %+v, %v", text, other, got, ok, otherSaid, otherCounts)
			}
			if e, read := impl.HallRead(text); read && said.Code != 0 {
				if _, now := impl.HallDo(h, r.states[n], e); now.Code == 0 {
					refused++
				}
			}
		}
		if t.Failed() {
			return
		}
	}
	if refused < 10 {
		t.Errorf("the dice showed too little: %d texts that were refused would be done by now", refused)
	}
}

// wantLateSlip is what promise 41 says of a slip that is put behind all texts.
func wantLateSlip(t *testing.T, r *textRow, e impl.HallEntry) impl.GateSaid {
	t.Helper()
	form, now := impl.HallForm(e), r.states[len(r.texts)]
	said, ok := impl.HallTold(r.row.h, with(r.texts, len(r.texts), form), form)
	_, asked := impl.GatePass(impl.HallLaw(r.row.h), now.Gate, e.Slip.Door, e.Slip.Ask)
	if _, worded, counts := broughtByHand(r.row.h, now, r.texts, form); !ok || !counts || said != worded {
		t.Errorf("%q behind %q is told %+v, %v, not %+v, %v", form, r.texts, said, ok, worded, counts)
	}
	switch said.Code {
	case 0, 10, 11:
		if said != asked {
			t.Errorf("%q behind %q is told %+v, and asking the gate %+v", form, r.texts, said, asked)
		}
	case 14:
		if asked.Code != 0 {
			t.Errorf("%q behind %q is told %+v, and asking the gate %+v", form, r.texts, said, asked)
		}
	case 12:
	default:
		t.Errorf("%q behind %q is told %+v", form, r.texts, said)
	}
	return said
}

// Promise 41, over drawn rows: slips that were made of the books that beginnings of every length lead to.
func TestDrawnLateSlipsOfTheHall(t *testing.T) {
	t.Parallel()
	d := &dice{state: 4101}
	seen := map[string]int{}
	for range 60 {
		r := drawnRow(d, 50)
		for n, view := range r.states {
			for range 4 {
				a, door, number := r.row.diceHallAsk(d, view), oneOf(d, diceDoors[:3]...), 1000+n
				_, worded := slipOfByHand(r.row.h, view, number, door, a)
				e := wantSlipEntry(t, "drawn", r.row.h, view, number, door, a, worded)
				seen["made "+count(worded.Code)]++
				if worded.Code == 0 && !slices.Contains(r.texts, impl.HallForm(e)) {
					seen["told "+count(wantLateSlip(t, r, e).Code)]++
				}
			}
		}
		if t.Failed() {
			return
		}
	}
	wantSeen(t, seen, 20, "made 0", "made 2", "made 3", "made 4", "made 6", "made 7", "made 9", "made 15", "told 0", "told 10", "told 12", "told 14")
}

// fullRow has objects that others than the hall hold, as many as there may be but for the last ones.
func fullRow(without int) *textRow {
	r := newTextRow(yardHouse())
	for i, name := range names(impl.GateMaxObjects - without) {
		r.put("slip " + count(1+i) + " d1 3 * ann make " + name + " dock audit,fleet 1,1,,,,")
		r.put("slip " + count(1+i) + " d1 3 * ann end " + name + " 0")
		r.put("act 1 " + name + " " + count(r.states[len(r.texts)].Stew.Now) + " 0 * * drop")
	}
	return r
}

// Promise 41 where the gate has no room any more, or the stewards have none.
func TestLateSlipsWithoutRoom(t *testing.T) {
	r := fullRow(1)
	if n := len(r.states[len(r.texts)].Gate.Objects); n != impl.GateMaxObjects-1 {
		t.Fatalf("there are %d objects: %v", n, r.told)
	}
	a := askOf(t, "ann make new dock fleet 1,2,,,,")
	view := r.states[len(r.texts)]
	e := wantSlipEntry(t, "room for one", r.row.h, view, 7, "d1", a, impl.GateSaid{})
	if said := wantLateSlip(t, r, e); said.Code != 0 {
		t.Errorf("there is room, and the slip is told %+v", said)
	}
	r.put("slip 99 d1 3 * ann make other dock audit,fleet 1,1,,,,")
	if said := wantLateSlip(t, r, e); said != codeAlone(11) {
		t.Errorf("there is no room, and the slip is told %+v", said)
	}
	few := newTextRow(yardHouse())
	for i, name := range names(impl.StewMaxServices) {
		few.put("slip " + count(1+i) + " d1 3 * ann make " + name + " dock fleet 1,1,,,,")
	}
	for n, view := range few.states {
		e := wantSlipEntry(t, count(n), few.row.h, view, 7, "d1", a, impl.GateSaid{})
		if said := wantLateSlip(t, few, e); said != undone(2) {
			t.Errorf("there is a ninth service, and the slip is told %+v", said)
		}
	}
}

// A slip that stands there already is told what it was told.
func TestALateSlipThatStandsThere(t *testing.T) {
	h := yardHouse()
	a := askOf(t, "ann make web dock fleet 1,2,,,,")
	e := wantSlipEntry(t, "the first books", h, impl.HallFirst(h), 7, "d1", a, impl.GateSaid{})
	form := impl.HallForm(e)
	texts := []string{"sea 1 tick", form, "slip 8 d1 3 * ann end web 0"}
	wantTold(t, "behind all", h, append(texts, form), form, impl.GateSaid{Version: 4})
	other := impl.HallForm(withNumber(e, "Number", 9))
	wantTold(t, "with another Number", h, append(texts, other), other, impl.GateSaid{Code: 12, Place: 1})
}

// nextKind tells what is next by what counts.
func nextKind(e impl.HallEntry, ok bool) string {
	switch {
	case !ok:
		return "nothing"
	case e.Kind == impl.HallSweep:
		return "sweep"
	case e.Kind == impl.HallSea:
		return "tick"
	case e.Act.Drop:
		return "drop"
	case e.Act.Scale:
		return "scale"
	case e.Act.Create > 0:
		return "create"
	}
	return "end"
}

// Promise 43, over the books that beginnings of drawn rows lead to, and over ones whose Nows are at their ends.
func TestDrawnNext(t *testing.T) {
	t.Parallel()
	d := &dice{state: 4301}
	seen := map[string]int{}
	for range 60 {
		r := drawnRow(d, 50)
		h := r.row.h
		for _, b := range r.states {
			for steward := range 8 {
				wantActs(t, "drawn", h, b, steward)
			}
			for _, number := range []int{1 + d.below(1000000), oneOf(d, 0, 1, 1000000, 1000001, -1)} {
				e, ok := wantNext(t, "drawn", h, b, number)
				seen[nextKind(e, ok)]++
			}
			tries := 2
			if len(impl.GateMark(impl.HallLaw(h), b.Gate)) > 0 {
				tries = 8
			}
			for range tries {
				late := nearEnds(d, b)
				if e, ok := wantNext(t, "near the ends", h, late, 7); ok {
					seen[nextKind(e, ok)+" "+count(wantNextDone(t, "near the ends", h, late, e).Code)]++
				}
			}
		}
		if t.Failed() {
			return
		}
	}
	wantSeen(t, seen, 20, "nothing", "sweep", "tick", "drop", "scale", "create", "end")
	wantSeen(t, seen, 5, "sweep 0", "sweep 3", "sweep 14", "tick 14", "drop 0", "drop 11", "drop 14", "create 14", "end 14", "scale 14")
}

// From next to next, from where drawn rows have led to: each is done, and in the end, if there is a berth that is not to
// be drained, all is done that was asked for.
func TestDrawnRowsComeToRest(t *testing.T) {
	t.Parallel()
	d := &dice{state: 4302}
	most, copies := 0, 0
	for range 60 {
		r := drawnRow(d, 60)
		r.put("sea 999 raise " + oneOf(d, diceBerths...))
		h, b := r.row.h, r.states[len(r.texts)]
		texts := r.texts
		for n := 0; ; n++ {
			e, ok := wantNext(t, "to rest", h, b, 5000+n)
			if !ok || n == 2000 || t.Failed() {
				most = max(most, n)
				break
			}
			said := wantNextDone(t, "to rest", h, b, e)
			if said.Code != 0 {
				t.Fatalf("%q is told %+v in %s", impl.HallForm(e), said, hallTold(b))
			}
			texts = append(texts, impl.HallForm(e))
			b, _ = impl.HallDo(h, b, e)
		}
		wantState(t, "to rest", h, texts, b)
		l := impl.HallLaw(h)
		if !impl.StewDone(b.Stew) || len(impl.GateMark(l, b.Gate))+len(impl.GateGoing(l, b.Gate)) != 0 {
			t.Fatalf("%q leads to %s", texts, hallTold(b))
		}
		copies += len(b.Stew.Copies)
	}
	if most < 20 || copies < 50 {
		t.Errorf("the dice showed too little: %d entries, %d copies", most, copies)
	}
}
