package tests

import (
	"testing"

	"loop.example/wharfhall/impl"
)

// wantHandStep asks GateStep for what the document's words give, and for a code, and gives its world.
func wantHandStep(t *testing.T, l impl.GateLaw, w impl.GateWorld, e impl.GateEvent, code int) impl.GateWorld {
	t.Helper()
	got, said := wantWordedStep(t, l, w, e)
	if said.Code != code {
		t.Errorf("%+v: %+v, not %d", e, said, code)
	}
	return got
}

// wantWordedStep asks GateStep for what the document's words give, and gives its answer.
func wantWordedStep(t *testing.T, l impl.GateLaw, w impl.GateWorld, e impl.GateEvent) (impl.GateWorld, impl.GateSaid) {
	t.Helper()
	got, said := impl.GateStep(l, w, e)
	want, told := stepByHand(l, w, e)
	if said != told || !sameWorld(got, want) {
		t.Fatalf("%+v in %+v:\n%+v, %+v,\nnot %+v, %+v", e, w, said, got, told, want)
	}
	return got, said
}

// GateWorldOk of drawn worlds, as they are and with one thing turned, against the document's words.
func TestDrawnWorlds(t *testing.T) {
	t.Parallel()
	d := &dice{state: 1010}
	seen := map[bool]int{}
	for range 400 {
		l, w := diceWorld(d)
		wantWorld(t, "drawn", l, w, true)
		for range 12 {
			other := worldTurnedByDice(d, w)
			want := worldByHand(l, other)
			seen[want]++
			wantWorld(t, "turned", l, other, want)
			if !want {
				wantNoStep(t, "turned", l, other, diceEvent(d, l, w))
				wantSafe(t, "turned", l, w.Book, other, false)
			}
		}
	}
	if seen[true] < 1000 || seen[false] < 1000 {
		t.Errorf("the dice showed too little: %v", seen)
	}
}

// GateSafe of any two drawn books, against the document's words.
func TestDrawnSafety(t *testing.T) {
	t.Parallel()
	d := &dice{state: 1313}
	seen := map[bool]int{}
	for range 500 {
		l, w := diceWorld(d)
		first := bookCopy(w.Book)
		first.Grants, first.Given = nil, first.Now
		for n := range d.below(6) {
			r := dicePassRule(d)
			if d.below(2) == 0 {
				r.Verbs = allVerbs()
			}
			first.Grants = append(first.Grants, grant(n+1, "ann", "", r))
		}
		for range 6 {
			w.Book.Grants = nil
			for n := range d.below(4) {
				w.Book.Grants = append(w.Book.Grants, grant(n+1, "bob", "cy", dicePassRule(d)))
			}
			w.Book.Given = max(w.Book.Given, 3)
			want := safeByHand(l, first, w)
			seen[want]++
			wantSafe(t, "drawn", l, first, w, want)
		}
	}
	if seen[true] < 500 || seen[false] < 500 {
		t.Errorf("the dice showed too little: %v", seen)
	}
}

// wantRights is promise 4 of a world whose first book was another: acts that a grant allows, a first one allows.
func wantRights(t *testing.T, d *dice, l impl.GateLaw, first, now impl.GateBook) {
	t.Helper()
	allows := func(b impl.GateBook, a impl.GateAct) bool {
		for _, g := range b.Grants {
			if impl.GateAllows(l.Teams, g.Rule, a) {
				return true
			}
		}
		return false
	}
	for range 60 {
		a := act(1+d.below(5), oneOf(d, "barge", "pier", "rope", "none"), oneOf(d, diceTeams[1:]...), oneOf(d, "n", "n1", "n11", "n101", "n1011", "m", "x"))
		if allows(now, a) && !allows(first, a) {
			t.Fatalf("%+v is allowed by %+v,\nnot by %+v", a, now.Grants, first.Grants)
		}
	}
}

// hadTheRight is what promise 4 says of an ask that was done in a book.
func hadTheRight(l impl.GateLaw, b impl.GateBook, door string, a impl.GateAsk) bool {
	h := &handPass{l: l, b: bookCopy(b), door: door, a: a, made: a.Verb == 1, changed: a.Verb == 2, of: a.Verb <= 4}
	h.find()
	return h.three().Code == 0 && h.four().Code == 0
}

// firstGrants leaves a drawn world's books a few grants, the first of which is often not open: it would cover all
// that can be given.
func firstGrants(d *dice, l impl.GateLaw, w *impl.GateWorld) {
	r := rule(allVerbs(), oneOf(d, "", "", "barge"), oneOf(d, "", l.Teams[0].Name), oneOf(d, "", "", "n10"))
	w.Book.Now, w.Book.Given = max(w.Book.Now, 9), 9
	w.Book.Grants = []impl.GateGrant{grant(1, "ann", "", r)}
	for n := range d.below(3) {
		w.Book.Grants = append(w.Book.Grants, grant(n+2, oneOf(d, "bob", "cy"), "ann", dicePassRule(d)))
	}
	for i := range w.Doors {
		w.Doors[i].View, w.Doors[i].Slips = bookCopy(w.Book), nil
	}
}

// Promises 4 and 13: behind any row of events a world is ok, and safe if it was.
func TestWorldsStayOkAndSafe(t *testing.T) {
	t.Parallel()
	d := &dice{state: 413}
	seen, asked := map[[2]int]int{}, map[[2]int]int{}
	for run := range 150 {
		l, w := diceWorld(d)
		if run%3 > 0 {
			firstGrants(d, l, &w)
		}
		first := bookCopy(w.Book)
		for range 150 {
			e := diceEvent(d, l, w)
			got, said := wantWordedStep(t, l, w, e)
			seen[[2]int{e.Kind, said.Code}]++
			wantWorld(t, "in a row", l, got, true)
			wantSafe(t, "in a row", l, first, got, true)
			wantNoLooseEnds(t, l, got.Book)
			if e.Kind == impl.GateCommits && said.Code != 13 {
				s := w.Doors[e.Door].Slips[e.At]
				asked[[2]int{s.Ask.Verb, said.Code}]++
				if said.Code == 0 && !hadTheRight(l, w.Book, s.Door, s.Ask) {
					t.Fatalf("%+v had no right to %+v", w.Book.Grants, s.Ask)
				}
			}
			if got.Book.Given != w.Book.Given {
				wantRights(t, d, l, first, got.Book)
			}
			if t.Failed() {
				t.Fatalf("behind %+v", e)
			}
			w = got
		}
	}
	for kind, codes := range map[int][]int{
		-1: {13}, 0: {13}, 1: {0, 13}, 2: {0, 2, 3, 4, 5, 6, 7, 8, 9, 11, 13}, 3: {0, 10, 11, 12, 13}, 4: {0, 13}, 5: {0, 2, 3, 13},
		6: {0, 2, 13}, 7: {0}, 8: {0, 13}, 9: {0, 13}, 10: {0, 2, 3}, 11: {0, 2, 3, 4}, 12: {13},
	} {
		for _, code := range codes {
			if seen[[2]int{kind, code}] < 2 {
				t.Errorf("the dice showed too little: event %d has told %d %d times", kind, code, seen[[2]int{kind, code}])
			}
		}
	}
	for verb := impl.GateMake; verb <= impl.GateTake; verb++ {
		if asked[[2]int{verb, 0}] < 30 || asked[[2]int{verb, 12}] < 20 {
			t.Errorf("the dice showed too little: %v", asked)
		}
	}
}

// A world that is not safe may become it, but one that is stays it: a grant that no first one covers is never made.
func TestNoDoorWidensRights(t *testing.T) {
	l := passLaw()
	first := bookOf(rule(verbs(1, 5), "barge", "dock", "b"))
	first.Ledgers = nil
	w := impl.GateWorld{Book: first, Doors: manyDoors(2)}
	for i := range w.Doors {
		w.Doors[i].View = bookCopy(first)
	}
	give := func(to string, r impl.GateRule) impl.GateEvent {
		return impl.GateEvent{Kind: impl.GateAsks, Ask: askGive(to, r)}
	}
	for what, r := range map[string]impl.GateRule{
		"another verb":        rule(verbs(2), "barge", "dock", "b"),
		"a verb more":         rule(verbs(1, 2), "barge", "dock", "b"),
		"any kind":            rule(verbs(1), "", "dock", "b"),
		"another kind":        rule(verbs(1), "pier", "dock", "b"),
		"any team":            rule(verbs(1), "barge", "", "b"),
		"the team over":       rule(verbs(1), "barge", "yard", "b"),
		"a wider prefix":      rule(verbs(1), "barge", "dock", ""),
		"another prefix":      rule(verbs(1), "barge", "dock", "c"),
		"all":                 openRule(),
		"a team that is none": rule(verbs(1), "barge", "none", "b"),
	} {
		wantSame(t, what, l, w, give("bob", r), 4)
		// A slip that no view made is refused by the Book.
		forged := turned(w, func(w *impl.GateWorld) {
			w.Doors[0].Slips = []impl.GateSlip{{Door: w.Doors[0].Name, Ask: askGive("bob", r), Given: first.Given}}
		})
		got, said := impl.GateStep(l, forged, impl.GateEvent{Kind: impl.GateCommits})
		if said != (impl.GateSaid{Code: 4}) || !sameWorld(got, w) || !impl.GateSafe(l, first, got) {
			t.Errorf("%s: %+v, %+v", what, said, got)
		}
	}
	narrow := rule(verbs(1, 5), "barge", "gang", "bb")
	w = wantHandStep(t, l, w, give("bob", narrow), 0)
	w = wantHandStep(t, l, w, impl.GateEvent{Kind: impl.GateCommits}, 0)
	wantSafe(t, "given", l, first, w, true)
	// bob gives on what he has, at a door that has not looked yet only behind looking.
	on := impl.GateEvent{Kind: impl.GateAsks, Door: 1, Ask: byWho(askGive("cy", narrow), "bob")}
	w = wantHandStep(t, l, w, on, 4)
	w = wantHandStep(t, l, w, impl.GateEvent{Kind: impl.GateLook, Door: 1}, 0)
	w = wantHandStep(t, l, w, on, 0)
	w = wantHandStep(t, l, w, impl.GateEvent{Kind: impl.GateCommits, Door: 1}, 0)
	wantSafe(t, "given on", l, first, w, true)
	wantSafe(t, "given on, by less", l, bookOf(narrow), w, false)
}

// What was taken back does not pass, though a door has seen it and has a slip of it.
func TestWhatIsTakenBackDoesNotPass(t *testing.T) {
	l, w := passLaw(), passWorld()
	bob := byWho(askMake("barge", "bz", "dock", "0", "0", "", "", "", ""), "bob")
	w.Doors[0].Slips = nil
	w = wantHandStep(t, l, w, impl.GateEvent{Kind: impl.GateLook, Door: lateDoor}, 0)
	for _, at := range []int{busyDoor, lateDoor} {
		w = wantHandStep(t, l, w, impl.GateEvent{Kind: impl.GateAsks, Door: at, Ask: bob}, 0)
	}
	w = wantHandStep(t, l, w, impl.GateEvent{Kind: impl.GateAsks, Door: lateDoor, Ask: askTake(2)}, 0)
	w = wantHandStep(t, l, w, impl.GateEvent{Kind: impl.GateCommits, Door: lateDoor, At: 1}, 0)
	for _, at := range []int{busyDoor, lateDoor} {
		// The view still has the grant: it lets the ask pass, and the Book does not.
		w = wantHandStep(t, l, w, impl.GateEvent{Kind: impl.GateAsks, Door: at, Ask: bob}, 0)
		for range 2 {
			w = wantHandStep(t, l, w, impl.GateEvent{Kind: impl.GateCommits, Door: at}, 12)
		}
		w = wantHandStep(t, l, w, impl.GateEvent{Kind: impl.GateLook, Door: at}, 0)
		w = wantHandStep(t, l, w, impl.GateEvent{Kind: impl.GateAsks, Door: at, Ask: bob}, 4)
	}
	if placeIn(w.Book, barge("bz", "", 0)) >= 0 {
		t.Errorf("%+v", w.Book.Objects)
	}
}
