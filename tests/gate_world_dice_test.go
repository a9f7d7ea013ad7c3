package tests

import (
	"slices"

	"loop.example/wharfhall/impl"
)

// worldByHand is what the document's words say of a world, of a law that is ok.
func worldByHand(l impl.GateLaw, w impl.GateWorld) bool {
	ok := impl.GateBookOk(l, w.Book) && len(w.Doors) <= 4
	for i, x := range w.Doors {
		ok = ok && handName.MatchString(x.Name) && (i == 0 || w.Doors[i-1].Name < x.Name)
		ok = ok && impl.GateBookOk(l, x.View) && x.View.Now <= w.Book.Now
		ok = ok && len(x.Slips) <= 6 && (x.Up || len(x.Slips) == 0)
		for _, s := range x.Slips {
			ok = ok && slipOkByHand(l, s) && s.Door == x.Name
		}
	}
	return ok
}

// stepByHand answers by the document's words, of a law and a world that are ok.
func stepByHand(l impl.GateLaw, w impl.GateWorld, e impl.GateEvent) (impl.GateWorld, impl.GateSaid) {
	out := worldCopy(w)
	if !canByHand(w, e) {
		return out, impl.GateSaid{Code: 13}
	}
	var x *impl.GateDoor
	if !slices.Contains([]int{7, 10, 11}, e.Kind) {
		x = &out.Doors[e.Door]
	}
	said := impl.GateSaid{}
	book := func(b impl.GateBook, told impl.GateSaid) {
		said = told
		if told.Code == 0 {
			out.Book = b
		}
	}
	call := func(c purseCall) {
		b, code := c.byHand(l, w.Book)
		book(b, impl.GateSaid{Code: code})
	}
	switch e.Kind {
	case 1:
		x.View = bookCopy(w.Book)
	case 2:
		var s impl.GateSlip
		if s, said = slipByHand(l, x.View, x.Name, e.Ask); said.Code == 0 {
			x.Slips = append(x.Slips, s)
		}
	case 3:
		book(commitByHand(l, w.Book, x.Slips[e.At]))
		x.Slips = slices.Delete(x.Slips, e.At, e.At+1)
	case 4:
		x.Slips = slices.Delete(x.Slips, e.At, e.At+1)
	case 5:
		call(purseCall{drawCall, x.Name, e.Team, e.Resource, e.Amount})
	case 6:
		call(purseCall{backCall, x.Name, e.Team, e.Resource, 0})
	case 7:
		call(purseCall{which: tickCall})
	case 8:
		x.Up, x.Slips = false, nil
	case 9:
		x.Up = true
	case 10:
		b, code := sweepByHand(l, w.Book)
		book(b, impl.GateSaid{Code: code})
	case 11:
		call(purseCall{boundCall, "", e.Team, e.Resource, e.Amount})
	}
	return out, said
}

// canByHand says whether an event is not told 13.
func canByHand(w impl.GateWorld, e impl.GateEvent) bool {
	switch e.Kind {
	case 7, 10, 11:
		return true
	case 1, 2, 3, 4, 5, 6, 8, 9:
	default:
		return false
	}
	if e.Door < 0 || e.Door >= len(w.Doors) {
		return false
	}
	x := w.Doors[e.Door]
	switch e.Kind {
	case 9:
		return !x.Up
	case 2:
		return x.Up && len(x.Slips) < 6
	case 3, 4:
		return x.Up && e.At >= 0 && e.At < len(x.Slips)
	}
	return x.Up
}

// safeByHand asks of each rule of the Book for the act that is hardest to allow among its acts.
func safeByHand(l impl.GateLaw, first impl.GateBook, w impl.GateWorld) bool {
	for _, g := range w.Book.Grants {
		hardest := impl.GateAct{Kind: g.Rule.Kind, Team: g.Rule.Team, Name: g.Rule.Prefix}
		if hardest.Kind == "" {
			hardest.Kind = "no-such-kind"
		}
		if hardest.Team == "" {
			hardest.Team = "no-such-team"
		}
		for _, v := range g.Rule.Verbs {
			hardest.Verb = v
			if !slices.ContainsFunc(first.Grants, func(f impl.GateGrant) bool { return allowsByHand(l.Teams, f.Rule, hardest) }) {
				return false
			}
		}
	}
	return true
}

// diceWorld is an ok world whose doors have books of its past for views.
func diceWorld(d *dice) (impl.GateLaw, impl.GateWorld) {
	h := dicePast(d)
	for range d.below(10) {
		h.meanwhile(d, false)
	}
	w := impl.GateWorld{Book: bookCopy(h.now())}
	for _, name := range diceDoors[:oneOf(d, 0, 1, 2, 3, 4, 4)] {
		x := impl.GateDoor{Name: name, Up: d.below(5) > 0, View: bookCopy(h.older(d))}
		for range d.below(9) {
			s, said := slipByHand(h.l, x.View, name, diceAsk(d, h.l, x.View))
			if said.Code == 0 && x.Up && len(x.Slips) < impl.GateMaxSlips {
				x.Slips = append(x.Slips, s)
			}
		}
		w.Doors = append(w.Doors, x)
	}
	return h.l, worldCopy(w)
}

// diceEvent is mostly one that can happen.
func diceEvent(d *dice, l impl.GateLaw, w impl.GateWorld) impl.GateEvent {
	e := anyEvent(d, l, w)
	for range 9 {
		if canByHand(w, e) || d.below(20) == 0 {
			break
		}
		e = anyEvent(d, l, w)
	}
	return e
}

func anyEvent(d *dice, l impl.GateLaw, w impl.GateWorld) impl.GateEvent {
	e := eventOf(diceCall(d, d.below(3) == 0, l, w.Book), d.below(len(w.Doors)+1))
	e.Kind = oneOf(d, 1, 1, 2, 2, 2, 2, 2, 3, 3, 3, 3, 3, 9, oneOf(d, 4, 5, 5, 5, 6, 7, 8, 10, 11, e.Kind))
	if d.below(30) == 0 {
		e.Kind, e.Door = oneOf(d, 0, 12, -1, e.Kind), oneOf(d, -1, len(w.Doors), e.Door)
	}
	e.At = oneOf(d, 0, d.below(7), -1)
	view := w.Book
	if e.Door >= 0 && e.Door < len(w.Doors) {
		view = w.Doors[e.Door].View
		e.At = d.below(len(w.Doors[e.Door].Slips)+1) - d.below(12)/11
	}
	e.Ask = diceAsk(d, l, view)
	// Who took the first grant back would leave little to ask for.
	if e.Ask.Number == 1 && d.below(20) > 0 {
		e.Ask.Number = 2
	}
	return e
}

// worldTurnedByDice is a world with one thing in it turned, often into something that is ok.
func worldTurnedByDice(d *dice, w impl.GateWorld) impl.GateWorld {
	w = worldCopy(w)
	if len(w.Doors) == 0 || d.below(10) == 0 {
		turnOneNumber(d, &w.Book)
		return w
	}
	at := d.below(len(w.Doors))
	x := &w.Doors[at]
	switch d.below(9) {
	case 0:
		w.Doors = turnedAround(d, w.Doors)
	case 1:
		x.Name = oneOf(d, "", "D0", "d0", "d0-", "d1", "d9", long(16), long(17))
		for i := range x.Slips {
			x.Slips[i].Door = oneOf(d, x.Name, x.Name, x.Name, "d0")
		}
	case 2:
		x.Up = !x.Up
	case 3:
		turnOneNumber(d, &x.View)
	case 4:
		x.View.Now = w.Book.Now + oneOf(d, -1, 0, 1)
	case 5:
		w.Doors = slices.Insert(w.Doors, oneOf(d, at, at+1, len(w.Doors)), impl.GateDoor{Name: oneOf(d, "a", "d1", "d11", "z"), Up: true})
	case 6:
		for range d.below(8) {
			x.Slips = append(x.Slips, impl.GateSlip{Door: x.Name, Ask: askTake(1)})
		}
	default:
		if len(x.Slips) > 0 {
			i := d.below(len(x.Slips))
			x.Slips[i] = slipTurnedByDice(d, x.View, x.Slips[i])
		}
	}
	return w
}
