package tests

import (
	"slices"
	"testing"

	"loop.example/wharfhall/impl"
)

func wanted(kind, name string, version int) impl.GateWant {
	return impl.GateWant{Kind: kind, Name: name, Version: version}
}

// slip is one of the door d, made where the last change of the grants was the eighth version, as it is in passBook.
func slip(a impl.GateAsk, wants ...impl.GateWant) impl.GateSlip {
	return impl.GateSlip{Door: "d", Ask: a, Given: 8, Wants: wants}
}

// sameAsk holds a nil list and an empty one to be the same.
func sameAsk(a, b impl.GateAsk) bool {
	return a.Who == b.Who && a.Verb == b.Verb && a.Kind == b.Kind && a.Name == b.Name && a.Team == b.Team &&
		slices.Equal(a.Values, b.Values) && slices.Equal(a.Holds, b.Holds) && a.Seen == b.Seen && a.Hold == b.Hold &&
		a.To == b.To && slices.Equal(a.Rule.Verbs, b.Rule.Verbs) && a.Rule.Kind == b.Rule.Kind &&
		a.Rule.Team == b.Rule.Team && a.Rule.Prefix == b.Rule.Prefix && a.Number == b.Number
}

func sameSlip(a, b impl.GateSlip) bool {
	return a.Door == b.Door && sameAsk(a.Ask, b.Ask) && a.Given == b.Given && slices.Equal(a.Wants, b.Wants)
}

// goodWants are what the good asks rely on in passBook.
func goodWants() map[string][]impl.GateWant {
	return map[string][]impl.GateWant{
		"make":   {wanted("barge", "z", 0), wanted("pier", "p", 2), wanted("barge", "a", 3)},
		"change": {wanted("barge", "c", 5), wanted("pier", "p", 2), wanted("barge", "a", 3)},
		"end":    {wanted("barge", "a", 3)},
		"let go": {wanted("barge", "b", 20)},
		"give":   nil,
		"take":   nil,
	}
}

// goodSlips are the slips of the good asks, each committed with code 0 in passBook.
func goodSlips() map[string]impl.GateSlip {
	out := map[string]impl.GateSlip{}
	for what, a := range goodAsks() {
		out[what] = slip(a, goodWants()[what]...)
	}
	return out
}

// wantSlip asks for a slip, which is then ok.
func wantSlip(t *testing.T, what string, l impl.GateLaw, view impl.GateBook, door string, a impl.GateAsk, wants ...impl.GateWant) {
	t.Helper()
	wantBook(t, what, l, view, true)
	got, said := impl.GateSlipOf(l, view, door, a)
	whole := impl.GateSlip{Door: door, Ask: a, Given: view.Given, Wants: wants}
	if said != (impl.GateSaid{}) || !sameSlip(got, whole) || !impl.GateSlipOk(l, got) {
		t.Errorf("%s: %+v, %+v,\nnot %+v", what, said, got, whole)
	}
}

// wantNoSlip asks for an answer beside which there is no slip.
func wantNoSlip(t *testing.T, what string, l impl.GateLaw, view impl.GateBook, door string, a impl.GateAsk, want impl.GateSaid) {
	t.Helper()
	got, said := impl.GateSlipOf(l, view, door, a)
	if said != want || !sameSlip(got, impl.GateSlip{}) {
		t.Errorf("%s: %+v, not %+v, and %+v", what, said, want, got)
	}
}

// wantLate asks that a slip is not committed, and that the book is as it was.
func wantLate(t *testing.T, what string, l impl.GateLaw, b impl.GateBook, s impl.GateSlip, said impl.GateSaid) {
	t.Helper()
	wantBook(t, what, l, b, true)
	got, told := impl.GateCommit(l, b, s)
	if told != said || !sameBook(got, b) {
		t.Errorf("%s: %+v, not %+v, and %+v,\nnot %+v", what, told, said, got, b)
	}
}

func lateAt(place int) impl.GateSaid {
	return impl.GateSaid{Code: 12, Place: place}
}

// wantAsAsked asks that a slip is committed to what asking the book itself gives.
func wantAsAsked(t *testing.T, what string, l impl.GateLaw, b impl.GateBook, s impl.GateSlip) impl.GateSaid {
	t.Helper()
	got, said := impl.GateCommit(l, b, s)
	asked, told := passByHand(l, b, s.Door, s.Ask)
	if said != told || !sameBook(got, asked) {
		t.Errorf("%s: %+v, %+v,\nnot %+v, %+v", what, said, got, told, asked)
	}
	return said
}

// wantNoCommit asks for a code with which the book is nothing.
func wantNoCommit(t *testing.T, what string, l impl.GateLaw, b impl.GateBook, s impl.GateSlip, code int) {
	t.Helper()
	got, said := impl.GateCommit(l, b, s)
	if said != (impl.GateSaid{Code: code}) || !sameBook(got, impl.GateBook{}) {
		t.Errorf("%s: %+v, not %d, and %+v", what, said, code, got)
	}
}

// spoiledSlips are slips that are not ok, each with one thing turned wrong.
func spoiledSlips() map[string]impl.GateSlip {
	out := map[string]impl.GateSlip{}
	turn := func(how string, spoil func(s *impl.GateSlip)) {
		for what, s := range goodSlips() {
			s.Wants = slices.Clone(s.Wants)
			spoil(&s)
			out[what+": "+how] = s
		}
	}
	// Given is another than the book's too, so that the slip would be late if it were ok.
	for _, text := range notNames() {
		turn("Door "+text, func(s *impl.GateSlip) { s.Door, s.Given = text, 7 })
		turn("a first want's Kind "+text, func(s *impl.GateSlip) { s.Wants = []impl.GateWant{wanted(text, "a", 3)} })
		turn("a last want's Kind "+text, func(s *impl.GateSlip) { s.Wants = append(s.Wants, wanted(text, "a", 3)) })
		turn("a first want's Name "+text, func(s *impl.GateSlip) { s.Wants = []impl.GateWant{wanted("barge", text, 0)} })
		turn("a last want's Name "+text, func(s *impl.GateSlip) { s.Wants = append(s.Wants, wanted("barge", text, 0)) })
	}
	for _, n := range []int{-1, -8, -1 << 62} {
		turn("Given "+count(n), func(s *impl.GateSlip) { s.Given = n })
		turn("a first want's Version "+count(n), func(s *impl.GateSlip) { s.Wants = []impl.GateWant{wanted("barge", "none", n)} })
		turn("a last want's Version "+count(n), func(s *impl.GateSlip) { s.Wants = append(s.Wants, wanted("barge", "none", n)) })
	}
	turn("a want too many", func(s *impl.GateSlip) { s.Wants = manyWants(impl.GateMaxWants + 1) })
	turn("many wants too many", func(s *impl.GateSlip) { s.Wants = manyWants(100) })
	for what, a := range spoiledAsks() {
		out["ask: "+what] = slip(a)
	}
	out["no ask"] = slip(impl.GateAsk{})
	out["nothing"] = impl.GateSlip{}
	return out
}

// manyWants are n wants that are so in passBook.
func manyWants(n int) []impl.GateWant {
	list := make([]impl.GateWant, n)
	for i, name := range names(n) {
		list[i] = wanted("barge", name, 0)
	}
	return list
}
