package tests

import (
	"slices"
	"strings"
	"testing"

	"loop.example/wharfhall/impl"
)

// endLaw has two kinds with links of every role, to their own kind and to the other, some by two fields,
// and one kind that has no fields. A name may be one of both kinds.
func endLaw() impl.GateLaw {
	link := func(name, to string, role int) impl.GateField {
		return impl.GateField{Name: name, Kind: impl.GateLink, To: to, Role: role}
	}
	quay := impl.GateShape{Kind: "quay", Fields: []impl.GateField{
		link("on", "ship", impl.GateHolds),
		link("also", "quay", impl.GateHolds),
		link("of", "quay", impl.GateOwned),
		link("for", "ship", impl.GateOwned),
		link("by", "quay", impl.GateLeans),
		{Name: "room", Kind: impl.GateNumber, Least: 0, Most: 50, Weighs: "ship"},
	}}
	ship := impl.GateShape{Kind: "ship", Fields: []impl.GateField{
		{Name: "load", Kind: impl.GateNumber, Least: 0, Most: 99, Default: "1", Weighs: "tons"},
		link("tow", "ship", impl.GateHolds),
		link("part", "ship", impl.GateOwned),
		link("near", "ship", impl.GateLeans),
		link("next", "ship", impl.GateLeans),
		link("at", "quay", impl.GateLeans),
	}}
	// A leaning link is emptied though it is Fixed.
	ship.Fields[3].Fixed = true
	return impl.GateLaw{Shapes: []impl.GateShape{quay, {Kind: "rock"}, ship}, Teams: yardTeams()}
}

// linked is an object of a kind, with links told as "field=name".
func linked(kind, name string, links []string) impl.GateObject {
	l := endLaw()
	at := slices.IndexFunc(l.Shapes, func(s impl.GateShape) bool { return s.Kind == kind })
	o := impl.GateObject{Kind: kind, Name: name, Team: "dock", Values: make([]string, len(l.Shapes[at].Fields)), Version: 1}
	for _, link := range links {
		field, to, _ := strings.Cut(link, "=")
		o.Values[fieldPlace(l.Shapes[at], field)] = to
	}
	return o
}

func ship(name string, links ...string) impl.GateObject {
	o := linked("ship", name, links)
	if o.Values[0] == "" {
		o.Values[0] = "1"
	}
	return o
}

func quay(name string, links ...string) impl.GateObject {
	return linked("quay", name, links)
}

func ending(o impl.GateObject) impl.GateObject {
	o.Ending = true
	return o
}

func held(o impl.GateObject, holds ...string) impl.GateObject {
	o.Holds = holds
	return o
}

func inTeam(o impl.GateObject, team string) impl.GateObject {
	o.Team = team
	return o
}

func withVersion(o impl.GateObject, version int) impl.GateObject {
	o.Version = version
	return o
}

// endBook is an ok book of objects, if their links are.
func endBook(objects ...impl.GateObject) impl.GateBook {
	return impl.GateBook{Now: 9, Tick: 3, Given: 2, Objects: objects, Grants: []impl.GateGrant{grant(1, "ann", "", openRule())}}
}

// placesOf finds objects of a book that are told as "kind name", the kind being ship where it is left out.
func placesOf(b impl.GateBook, told string) []int {
	var places []int
	for _, word := range strings.Split(told, ",") {
		if word == "" {
			continue
		}
		kind, name, two := strings.Cut(word, " ")
		if !two {
			kind, name = "ship", word
		}
		places = append(places, slices.IndexFunc(b.Objects, func(o impl.GateObject) bool { return o.Kind == kind && o.Name == name }))
	}
	slices.Sort(places)
	return places
}

func wantPlaces(t *testing.T, what string, b impl.GateBook, got []int, told string) {
	t.Helper()
	if want := placesOf(b, told); !slices.Equal(got, want) {
		t.Errorf("%s: %v, not %v (%s) of %+v", what, got, want, told, b.Objects)
	}
}

// wantEnds asks the three functions that tell places.
func wantEnds(t *testing.T, what string, b impl.GateBook, mark, going, doomed string) {
	t.Helper()
	l := endLaw()
	wantBook(t, what, l, b, true)
	wantPlaces(t, what+": GateMark", b, impl.GateMark(l, b), mark)
	wantPlaces(t, what+": GateGoing", b, impl.GateGoing(l, b), going)
	wantPlaces(t, what+": GateDoomed", b, impl.GateDoomed(l, b), doomed)
}

// wantSweep asks for code 0 and a book with a Now and objects, that has all else as it was but for Free.
func wantSweep(t *testing.T, what string, b impl.GateBook, now int, objects ...impl.GateObject) impl.GateBook {
	t.Helper()
	l, want := endLaw(), bookCopy(b)
	want.Now, want.Objects = now, objects
	for i, g := range want.Ledgers {
		want.Ledgers[i].Free = g.Most - usedByHand(l, want, g.Team, g.Resource) - drawnByHand(b, g)
	}
	wantBook(t, what, l, b, true)
	got, code := impl.GateSweep(l, b)
	wantDone(t, what, l, got, code, want)
	return got
}

// wantNoSweep asks for a code with which the book is as it was.
func wantNoSweep(t *testing.T, what string, b impl.GateBook, code int) {
	t.Helper()
	wantBook(t, what, endLaw(), b, true)
	got, told := impl.GateSweep(endLaw(), b)
	wantRefused(t, what, b, got, told, code)
}
