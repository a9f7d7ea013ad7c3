package tests

import (
	"slices"
	"testing"

	"loop.example/wharfhall/impl"
)

// wantHandPlaces asks the three functions that tell places for the sets that the document's words give.
func wantHandPlaces(t *testing.T, l impl.GateLaw, b impl.GateBook, greatest func(impl.GateLaw, impl.GateBook, placeSet) placeSet) {
	t.Helper()
	for what, sets := range map[string]struct {
		got  []int
		want placeSet
	}{
		"GateMark":   {impl.GateMark(l, b), markByHand(l, b)},
		"GateGoing":  {impl.GateGoing(l, b), greatest(l, b, endingByHand(b))},
		"GateDoomed": {impl.GateDoomed(l, b), greatest(l, b, followedByHand(l, b))},
	} {
		if !slices.Equal(sets.got, sets.want.list()) {
			t.Fatalf("%s: %v, not %v of %+v", what, sets.got, sets.want.list(), b)
		}
	}
}

// The greatest sets, against all parts of small books.
func TestDrawnEndsAgainstAllParts(t *testing.T) {
	d := &dice{state: 31}
	for range 2500 {
		l := diceEndLaw(d)
		b := diceEndBook(d, l, 9)
		wantBook(t, "drawn", l, b, true)
		wantHandPlaces(t, l, b, greatestByTrying)
	}
}

func TestDrawnSweeps(t *testing.T) {
	t.Parallel()
	d := &dice{state: 8}
	seen := map[int]int{}
	for range 3000 {
		l := diceEndLaw(d)
		b := diceEndBook(d, l, oneOf(d, 6, 12, impl.GateMaxObjects))
		wantHandPlaces(t, l, b, greatestByHand)
		got, code := impl.GateSweep(l, b)
		want, wantCode := sweepByHand(l, b)
		seen[code]++
		if code != wantCode || !sameBook(got, want) {
			t.Fatalf("GateSweep of %+v: %d, %+v,\nnot %d, %+v", b, code, got, wantCode, want)
		}
		if code != 0 && !sameBook(got, b) {
			t.Fatalf("GateSweep of %+v: %d, and the book is %+v", b, code, got)
		}
		wantBook(t, "swept", l, got, true)
		wantNoLooseEnds(t, l, got)
	}
	if seen[0] < 300 || seen[2] < 300 || seen[3] < 100 || seen[0]+seen[2]+seen[3] != 3000 {
		t.Errorf("the dice showed too little: %v", seen)
	}
}

// wantNoLooseEnds is what promise 7 says of a book: what a link, a ledger, a purse or an object names is there.
func wantNoLooseEnds(t *testing.T, l impl.GateLaw, b impl.GateBook) {
	t.Helper()
	for _, tie := range tiesByHand(l, b) {
		if tie.to < 0 {
			t.Fatalf("%+v names what is not there: %+v", b.Objects[tie.from], b)
		}
	}
	team := func(name string) bool {
		return slices.ContainsFunc(l.Teams, func(x impl.GateTeam) bool { return x.Name == name })
	}
	for _, o := range b.Objects {
		if !team(o.Team) {
			t.Fatalf("%+v is of no team", o)
		}
	}
	for _, p := range b.Purses {
		if !slices.ContainsFunc(b.Ledgers, func(g impl.GateLedger) bool { return g.Team == p.Team && g.Resource == p.Resource }) {
			t.Fatalf("%+v is of no ledger", p)
		}
	}
	for _, g := range b.Ledgers {
		if !team(g.Team) {
			t.Fatalf("%+v is of no team", g)
		}
	}
}

// placeIn is where an object of one book stands in another one, or -1.
func placeIn(b impl.GateBook, o impl.GateObject) int {
	return slices.IndexFunc(b.Objects, func(x impl.GateObject) bool { return x.Kind == o.Kind && x.Name == o.Name })
}

// wantWholeSets is what promise 9 says of a sweep: nothing is gone that is held by, or owns, one that stays.
func wantWholeSets(t *testing.T, l impl.GateLaw, before, after impl.GateBook) {
	t.Helper()
	for _, tie := range tiesByHand(l, before) {
		from, to := before.Objects[tie.from], before.Objects[tie.to]
		if tie.role != impl.GateLeans && placeIn(after, from) >= 0 && placeIn(after, to) < 0 {
			t.Fatalf("%+v is gone without %+v: %+v", to, from, before)
		}
	}
	for i, o := range before.Objects {
		marked := slices.Contains(impl.GateMark(l, before), i)
		if placeIn(after, o) < 0 && (len(o.Holds) > 0 || !o.Ending && !marked) {
			t.Fatalf("%+v is gone: %+v", o, before)
		}
	}
}

// wantEnded is what promise 8 says of the book that is left of another one when there is nothing more to sweep.
func wantEnded(t *testing.T, l impl.GateLaw, first, last impl.GateBook) {
	t.Helper()
	doomed, followed := impl.GateDoomed(l, first), followedByHand(l, first)
	want := bookCopy(first)
	want.Now, want.Objects = last.Now, nil
	for i, g := range last.Ledgers {
		want.Ledgers[i].Free = g.Free
	}
	for i, o := range first.Objects {
		if slices.Contains(doomed, i) {
			continue
		}
		o.Values, o.Ending = slices.Clone(o.Values), followed.has(i)
		turned := o.Ending != first.Objects[i].Ending
		for _, tie := range tiesByHand(l, first) {
			if tie.from == i && tie.role == impl.GateLeans && slices.Contains(doomed, tie.to) {
				o.Values[tie.field], turned = "", true
			}
		}
		if at := placeIn(last, o); turned && at >= 0 {
			// Which of the new versions it is, the sweeps by hand tell.
			o.Version = max(last.Objects[at].Version, first.Now+1)
		}
		want.Objects = append(want.Objects, o)
	}
	if !sameBook(last, want) {
		t.Fatalf("what is left of %+v is %+v,\nnot %+v", first, last, want)
	}
}

// Promises 8 and 9, from drawn books and through as many sweeps as there are objects.
func TestSweepsComeToAnEnd(t *testing.T) {
	t.Parallel()
	d := &dice{state: 123}
	seen := map[string]int{}
	for range 2000 {
		l := diceEndLaw(d)
		first := diceEndBook(d, l, oneOf(d, 8, 15, impl.GateMaxObjects))
		if d.below(2) == 0 {
			first.Objects = ownedInARow(d, l, first.Objects)
			first.Ledgers, first.Purses = nil, nil
			diceBounds(d, l, &first, []string{"quay", "ship", "tons"})
		}
		b, code, sweeps := first, 0, 0
		for ; code == 0 && sweeps <= len(first.Objects); sweeps++ {
			before := b
			b, code = impl.GateSweep(l, before)
			wantWholeSets(t, l, before, b)
			wantNoLooseEnds(t, l, b)
			wantBook(t, "swept", l, b, true)
		}
		if code == 3 {
			seen["no version is left"]++
			continue
		}
		// One more than there are objects has nothing to do.
		if code != 2 {
			t.Fatalf("%d behind %d sweeps: %+v", code, sweeps, first)
		}
		if sweeps > 4 {
			seen["many sweeps"]++
		}
		if len(impl.GateDoomed(l, first)) > 0 && len(b.Objects) > 0 {
			seen["some are gone, some are left"]++
		}
		wantEnded(t, l, first, b)
	}
	for _, what := range []string{"no version is left", "many sweeps", "some are gone, some are left"} {
		if seen[what] < 100 {
			t.Errorf("the dice showed too little: %v", seen)
		}
	}
}

// ownedInARow makes each ship owned by the one ahead of it, or behind it, and one of them Ending, so that many sweeps are needed.
func ownedInARow(d *dice, l impl.GateLaw, objects []impl.GateObject) []impl.GateObject {
	ships := slices.DeleteFunc(slices.Clone(objects), func(o impl.GateObject) bool { return o.Kind != "ship" })
	if len(ships) == 0 {
		return objects
	}
	up := d.below(2) == 0
	for i := range ships {
		ships[i] = ship(ships[i].Name, "load=3", "near="+oneOf(d, ships...).Name)
		ships[i].Team = oneOf(d, l.Teams...).Name
		if up && i > 0 {
			ships[i].Values[2] = ships[i-1].Name
		} else if !up && i+1 < len(ships) {
			ships[i].Values[2] = ships[i+1].Name
		}
	}
	ships[d.below(len(ships))].Ending = true
	if d.below(2) == 0 {
		ships[d.below(len(ships))].Holds = names(1)
	}
	return ships
}

// endSome is what others than a sweep do to a book: it makes some objects Ending, and takes some Holds out.
func endSome(d *dice, b impl.GateBook) impl.GateBook {
	out := bookCopy(b)
	for i := range out.Objects {
		if out.Now < impl.GateMaxVersion && d.below(6) == 0 {
			out.Now++
			out.Objects[i].Version, out.Objects[i].Ending = out.Now, true
		}
		if out.Now < impl.GateMaxVersion && d.below(6) == 0 && len(out.Objects[i].Holds) > 0 {
			out.Now++
			out.Objects[i].Version, out.Objects[i].Holds = out.Now, out.Objects[i].Holds[1:]
		}
	}
	return out
}

// Promises 5 and 7, through sweeps and purses' calls in any order, while objects end and Holds are let go.
func TestLinksHoldBehindAnyCalls(t *testing.T) {
	d := &dice{state: 60}
	swept := 0
	for range 60 {
		l := diceEndLaw(d)
		b := diceEndBook(d, l, impl.GateMaxObjects)
		for range 60 {
			before := b
			switch d.below(4) {
			case 0:
				b = endSome(d, b)
			case 1:
				got, code := impl.GateSweep(l, b)
				if want, wantCode := sweepByHand(l, b); code != wantCode || !sameBook(got, want) {
					t.Fatalf("GateSweep of %+v: %d, %+v", b, code, got)
				}
				if code == 0 {
					swept++
				}
				b = got
			default:
				b, _ = diceCall(d, false, l, b).do(l, b)
			}
			wantNoLooseEnds(t, l, b)
			if !boundsByHand(l, b) || !impl.GateBookOk(l, b) {
				t.Fatalf("%+v, then %+v", before, b)
			}
		}
	}
	if swept < 100 {
		t.Errorf("the dice showed too little: %d sweeps", swept)
	}
}
