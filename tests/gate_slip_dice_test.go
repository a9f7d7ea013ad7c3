package tests

import (
	"slices"

	"loop.example/wharfhall/impl"
)

// slipByHand makes a slip by the document's words.
func slipByHand(l impl.GateLaw, view impl.GateBook, door string, a impl.GateAsk) (impl.GateSlip, impl.GateSaid) {
	h, said := lookByHand(l, view, door, a, func(code int) bool { return code != 10 })
	if said.Code != 0 {
		return impl.GateSlip{}, said
	}
	s := impl.GateSlip{Door: door, Ask: a, Given: view.Given}
	if h.made {
		s.Wants = append(s.Wants, wanted(a.Kind, a.Name, 0))
	} else if h.of {
		s.Wants = append(s.Wants, wanted(a.Kind, a.Name, h.old.Version))
	}
	for _, link := range h.newLinks() {
		s.Wants = append(s.Wants, wanted(link.to.Kind, link.to.Name, view.Objects[placeIn(view, link.to)].Version))
	}
	return s, impl.GateSaid{}
}

func slipOkByHand(l impl.GateLaw, s impl.GateSlip) bool {
	wrong := func(w impl.GateWant) bool {
		return !handName.MatchString(w.Kind) || !handName.MatchString(w.Name) || w.Version < 0
	}
	return handName.MatchString(s.Door) && askByHand(l, s.Ask) && s.Given >= 0 && len(s.Wants) <= 8 && !slices.ContainsFunc(s.Wants, wrong)
}

// commitByHand commits by the document's words.
func commitByHand(l impl.GateLaw, b impl.GateBook, s impl.GateSlip) (impl.GateBook, impl.GateSaid) {
	if !impl.GateBookOk(l, b) {
		return impl.GateBook{}, impl.GateSaid{Code: 1}
	}
	if !slipOkByHand(l, s) {
		return impl.GateBook{}, impl.GateSaid{Code: 2}
	}
	if s.Given != b.Given {
		return bookCopy(b), lateAt(0)
	}
	for i, w := range s.Wants {
		at := placeIn(b, impl.GateObject{Kind: w.Kind, Name: w.Name})
		if w.Version == 0 && at >= 0 || w.Version > 0 && (at < 0 || b.Objects[at].Version != w.Version) {
			return bookCopy(b), lateAt(i + 1)
		}
	}
	return passByHand(l, b, s.Door, s.Ask)
}

// slipTurnedByDice is a slip with one thing in it turned, often into something that is ok.
func slipTurnedByDice(d *dice, b impl.GateBook, s impl.GateSlip) impl.GateSlip {
	s.Wants = slices.Clone(s.Wants)
	at := d.below(len(s.Wants) + 1)
	switch {
	case d.below(6) == 0:
		s.Given = oneOf(d, s.Given+1, s.Given-1, 0, -1)
	case d.below(8) == 0:
		s.Door = oneOf(d, "", "No Door", "d0", "d1")
	case d.below(8) == 0:
		s.Ask = spoiledByDice(d, s.Ask)
	case d.below(8) == 0:
		s.Wants = manyWants(oneOf(d, 0, 7, 8, 9))
	case len(b.Objects) > 0 && d.below(2) == 0:
		o := oneOf(d, b.Objects...)
		s.Wants = slices.Insert(s.Wants, at, wanted(o.Kind, o.Name, oneOf(d, o.Version, o.Version, 0, o.Version-1, o.Version+1)))
	case len(s.Wants) > 0 && d.below(2) == 0:
		w := &s.Wants[d.below(len(s.Wants))]
		w.Kind, w.Name, w.Version = oneOf(d, w.Kind, w.Kind, "raft", "", "A"), oneOf(d, w.Name, w.Name, "none", "", "A"), oneOf(d, w.Version, w.Version+1, w.Version-1, 0, -1)
	default:
		s.Wants = slices.Insert(s.Wants, at, wanted(oneOf(d, "barge", "raft", "", "a b"), oneOf(d, "none", "n100", "", "N"), oneOf(d, 0, 0, 1, -1)))
	}
	return s
}

// history is a row of books, each of which an ask, a slip, a purse's call or a sweep has led to from the one ahead.
type history struct {
	l     impl.GateLaw
	books []impl.GateBook
}

func (h *history) now() impl.GateBook {
	return h.books[len(h.books)-1]
}

// older is the view of a door: mostly a book of a short while ago.
func (h *history) older(d *dice) impl.GateBook {
	back := oneOf(d, 2, 4, 8, len(h.books))
	return h.books[len(h.books)-1-d.below(min(back, len(h.books)))]
}

// dicePast begins a history, some of them so that their versions come to an end.
func dicePast(d *dice) *history {
	l := dicePassLaw(d)
	b := dicePassBook(d, l)
	if b.Now > 1000 {
		b.Now -= d.below(25)
		b.Given = min(b.Given, b.Now)
		for i, o := range b.Objects {
			b.Objects[i].Version = min(o.Version, b.Now)
		}
	}
	return &history{l: l, books: []impl.GateBook{b}}
}

// asks asks the last book, which goes on where it is done.
func (h *history) asks(d *dice, a impl.GateAsk) {
	if b, said := impl.GatePass(h.l, h.now(), oneOf(d, diceDoors...), a); said.Code == 0 {
		h.books = append(h.books, b)
	}
}

// meanwhile lets something happen that no slip is needed for. Where it is to be quiet, rights are seldom turned.
func (h *history) meanwhile(d *dice, quiet bool) {
	switch d.below(6) {
	case 0:
		if b, code := impl.GateSweep(h.l, h.now()); code == 0 {
			h.books = append(h.books, b)
		}
	case 1, 2:
		if b, code := diceCall(d, false, h.l, h.now()).do(h.l, h.now()); code == 0 {
			h.books = append(h.books, b)
		}
	default:
		// Who took the first grant back would leave little to ask for.
		if a := diceAsk(d, h.l, h.now()); a.Number != 1 && (a.Verb < impl.GateGive || !quiet || d.below(12) == 0) {
			h.asks(d, a)
		}
	}
}

// meddle asks for what a slip relies on to be made, or turned.
func (h *history) meddle(d *dice, s impl.GateSlip) {
	if len(s.Wants) == 0 {
		return
	}
	w := oneOf(d, s.Wants...)
	at := placeIn(h.now(), impl.GateObject{Kind: w.Kind, Name: w.Name})
	if at < 0 {
		a := impl.GateAsk{Who: "ann", Verb: impl.GateMake}
		diceObjectAsk(d, h.l, h.now(), &a)
		a.Name = w.Name
		h.asks(d, a)
		return
	}
	o := h.now().Objects[at]
	h.asks(d, oneOf(d, askChange(o.Kind, o.Name, o.Values...), askEnd(o.Kind, o.Name), askLetGo(o.Kind, o.Name, "n100")))
}
