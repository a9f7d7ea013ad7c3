package tests

import (
	"slices"
	"testing"

	"loop.example/wharfhall/impl"
)

// wantHandPass asks GatePass for what the document's words give, and gives its answer.
func wantHandPass(t *testing.T, l impl.GateLaw, b impl.GateBook, door string, a impl.GateAsk) (impl.GateBook, impl.GateSaid) {
	t.Helper()
	got, said := impl.GatePass(l, b, door, a)
	want, wantSaid := passByHand(l, b, door, a)
	if said != wantSaid || !sameBook(got, want) {
		t.Fatalf("%q asks %+v of %+v:\n%+v, %+v,\nnot %+v, %+v", door, a, b, said, got, wantSaid, want)
	}
	return got, said
}

// wantPassKept asks for what holds behind every answer: promise 10 with a code, and an ok book without one.
func wantPassKept(t *testing.T, l impl.GateLaw, before, after impl.GateBook, said impl.GateSaid) {
	t.Helper()
	if said.Code > 2 && !sameBook(before, after) || (said.Code == 1 || said.Code == 2) && !sameBook(after, impl.GateBook{}) {
		t.Fatalf("%+v, and %+v\nis %+v", said, before, after)
	}
	if said.Code != 0 {
		return
	}
	if said != (impl.GateSaid{Version: before.Now + 1}) || after.Now != before.Now+1 {
		t.Fatalf("%+v of %+v", said, before)
	}
	wantBook(t, "passed", l, after, true)
	wantNoLooseEnds(t, l, after)
	if !boundsByHand(l, after) {
		t.Fatalf("%+v\nis out of its bounds: %+v", before, after)
	}
}

// seenOften asks that the dice have shown each code with each verb that tells it.
func seenOften(t *testing.T, seen map[[2]int]int) {
	t.Helper()
	for verb, codes := range map[int][]int{
		impl.GateMake:   {0, 2, 3, 4, 7, 9, 10, 11},
		impl.GateChange: {0, 2, 3, 4, 5, 6, 7, 8, 9, 10, 11},
		impl.GateEnd:    {0, 2, 3, 4, 5, 6, 11},
		impl.GateLetGo:  {0, 2, 3, 4, 11},
		impl.GateGive:   {0, 2, 4, 11},
		impl.GateTake:   {0, 2, 3, 4, 11},
	} {
		for _, code := range codes {
			if seen[[2]int{verb, code}] < 10 {
				t.Errorf("the dice showed too little: verb %d has told %d %d times", verb, code, seen[[2]int{verb, code}])
			}
		}
	}
}

func TestDrawnAsks(t *testing.T) {
	t.Parallel()
	d := &dice{state: 606}
	seen := map[[2]int]int{}
	for range 1500 {
		l := dicePassLaw(d)
		b := dicePassBook(d, l)
		wantBook(t, "drawn", l, b, true)
		for range 12 {
			a, door := diceAsk(d, l, b), oneOf(d, "d0", "d1", "d2", "d2")
			if ok := impl.GateAskOk(l, a); ok != askByHand(l, a) {
				t.Fatalf("GateAskOk(%+v) = %v", a, ok)
			}
			got, said := wantHandPass(t, l, b, door, a)
			wantPassKept(t, l, b, got, said)
			seen[[2]int{a.Verb, said.Code}]++
		}
	}
	seenOften(t, seen)
}

// GateMay against the rules of the grants, one by one.
func TestDrawnMay(t *testing.T) {
	d := &dice{state: 44}
	seen := map[bool]int{}
	for range 300 {
		l := dicePassLaw(d)
		b := dicePassBook(d, l)
		for range 20 {
			who := oneOf(d, "ann", "bob", "cy", "eve", "")
			a := act(d.below(8), oneOf(d, "barge", "pier", "rope", "none"), oneOf(d, diceTeams...), oneOf(d, "n100", "n1", "n101x", ""))
			want := slices.ContainsFunc(b.Grants, func(g impl.GateGrant) bool { return g.To == who && impl.GateAllows(l.Teams, g.Rule, a) })
			seen[want]++
			if got := impl.GateMay(l, b, who, a); got != want {
				t.Fatalf("GateMay of %+v, %q, %+v = %v", b.Grants, who, a, got)
			}
		}
	}
	if seen[true] < 500 || seen[false] < 500 {
		t.Errorf("the dice showed too little: %v", seen)
	}
}

// Promise 12: asking for the values that an object has changes its version alone, through any door; it is refused
// only by who asks, or where it is Ending or no version is left.
func TestAskingForTheSameChangesTheVersionAlone(t *testing.T) {
	t.Parallel()
	d := &dice{state: 12}
	seen := map[int]int{}
	for range 600 {
		l := dicePassLaw(d)
		b := dicePassBook(d, l)
		for i, o := range b.Objects {
			a := seeing(askChange(o.Kind, o.Name, o.Values...), oneOf(d, 0, o.Version))
			got, said := wantHandPass(t, l, b, oneOf(d, "d0", "none"), a)
			seen[said.Code]++
			want := bookCopy(b)
			if said.Code == 0 {
				want.Now++
				want.Objects[i].Version = want.Now
			}
			wrong := said.Code != 0 && said != impl.GateSaid{Code: 6} && said != impl.GateSaid{Code: 11}
			if wrong || !sameBook(got, want) || said.Code == 6 != o.Ending || said.Code == 11 && b.Now < impl.GateMaxVersion {
				t.Fatalf("%+v of %+v: %+v, %+v", a, b, said, got)
			}
		}
	}
	if seen[0] < 1000 || seen[6] < 100 || seen[11] < 100 {
		t.Errorf("the dice showed too little: %v", seen)
	}
}

// Asking for the same again is what promise 12 is about: it is done twice, and costs once.
func TestAskingTwiceCostsOnce(t *testing.T) {
	d := &dice{state: 13}
	done := 0
	for range 4000 {
		l := dicePassLaw(d)
		b := dicePassBook(d, l)
		a := diceAsk(d, l, b)
		if a.Verb != impl.GateChange || b.Now > 1000 {
			continue
		}
		a.Seen = 0
		once, said := impl.GatePass(l, b, "d1", a)
		if said.Code != 0 {
			continue
		}
		done++
		twice, said := impl.GatePass(l, once, "d1", a)
		want := bookCopy(once)
		want.Now++
		want.Objects[placeIn(want, impl.GateObject{Kind: a.Kind, Name: a.Name})].Version = want.Now
		if said != (impl.GateSaid{Version: want.Now}) || !sameBook(twice, want) {
			t.Fatalf("%+v of %+v again: %+v, %+v", a, once, said, twice)
		}
	}
	if done < 100 {
		t.Errorf("the dice showed too little: %d", done)
	}
}

// wantCoveredGrants is what promise 4 says of a book's grants: all that they allow the first ones allow.
func wantCoveredGrants(t *testing.T, l impl.GateLaw, first []impl.GateRule, b impl.GateBook) {
	t.Helper()
	for _, g := range b.Grants {
		if !impl.GateCovers(l.Teams, first, g.Rule) {
			t.Fatalf("%+v allows what none of %+v does", g, first)
		}
	}
}

// Promises 4, 5 and 7, through asks, purses' calls and sweeps in any order, from books that the first grants alone are in.
func TestRightsAndBoundsHoldBehindAnyAsks(t *testing.T) {
	t.Parallel()
	d := &dice{state: 909}
	done := map[int]int{}
	for range 120 {
		l := dicePassLaw(d)
		b := dicePassBook(d, l)
		b.Now = min(b.Now, 500)
		b.Given = min(b.Given, 9)
		for i := range b.Objects {
			b.Objects[i].Version = 1
		}
		b.Grants = b.Grants[:min(4, len(b.Grants))]
		// An open rule would cover all that can be given.
		b.Grants[0].Rule = rule(allVerbs(), oneOf(d, "", "", "barge"), oneOf(d, "", l.Teams[0].Name), oneOf(d, "", "", "n10"))
		var first []impl.GateRule
		for _, g := range b.Grants {
			first = append(first, g.Rule)
		}
		for range 150 {
			before, said := b, impl.GateSaid{}
			switch d.below(8) {
			case 0:
				b, _ = impl.GateSweep(l, b)
			case 1:
				b, _ = diceCall(d, false, l, b).do(l, b)
			default:
				a := diceAsk(d, l, b)
				// Who took the first grant back would leave little to ask for.
				if a.Number == 1 && d.below(20) > 0 {
					continue
				}
				b, said = wantHandPass(t, l, b, oneOf(d, diceDoors...), a)
				if said.Code == 1 || said.Code == 2 {
					b = before
				}
				if said.Code == 0 {
					done[a.Verb]++
					wantPassKept(t, l, before, b, said)
				}
			}
			wantBook(t, "in a row", l, b, true)
			wantCoveredGrants(t, l, first, b)
		}
	}
	for verb := impl.GateMake; verb <= impl.GateTake; verb++ {
		if done[verb] < 80 {
			t.Errorf("the dice showed too little: %v", done)
		}
	}
}
