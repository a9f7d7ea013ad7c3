package tests

import (
	"slices"
	"testing"

	"loop.example/wharfhall/impl"
)

func TestHousesThatAreOk(t *testing.T) {
	for what, h := range okHouses() {
		wantHouse(t, what, h, true)
	}
	for at := range yardHouse().Grants {
		for _, name := range goodNames() {
			wantHouse(t, "To "+name, spoiledHouse(at, func(g *impl.GateGrant) { g.To = name }), true)
			wantHouse(t, "a rule of "+name, spoiledHouse(at, func(g *impl.GateGrant) { g.Rule = rule(verbs(5), name, name, name) }), true)
		}
	}
}

func TestHousesThatAreNotOk(t *testing.T) {
	for what, h := range wrongHouses() {
		wantHouse(t, what, h, false)
	}
}

// The Numbers go 1, 2, 3, ..: of all rows of small numbers there is one for each length.
func TestNumbersOfAHousesGrants(t *testing.T) {
	for _, row := range [][]int{{}, {1}, {2}, {0}, {1, 2}, {2, 1}, {1, 1}, {2, 3}, {1, 3}, {0, 1}, {1, 2, 3}, {3, 2, 1}, {1, 3, 2}, {1, 2, 4}, {1, 2, 2}, {0, 1, 2}, {2, 3, 4}} {
		h := impl.HallHouse{}
		for _, n := range row {
			h.Grants = append(h.Grants, grant(n, "ann", "", openRule()))
		}
		wantHouse(t, "numbers", h, slices.Equal(row, []int{1, 2, 3}[:len(row)]))
	}
}

func TestTheFirstBooks(t *testing.T) {
	for what, h := range okHouses() {
		n := len(h.Grants)
		want := impl.HallBook{Gate: impl.GateBook{Now: n, Given: n, Grants: h.Grants}}
		got := impl.HallFirst(h)
		if !sameWhole(got, want) {
			t.Errorf("%s: %+v, not %+v", what, got, want)
		}
		wantBook(t, what, impl.HallLaw(h), got.Gate, true)
		if !impl.StewValid(got.Stew) {
			t.Errorf("%s: the stewards' book %+v is not valid", what, got.Stew)
		}
	}
}

func TestTheFirstBooksByHowManyGrants(t *testing.T) {
	for n := range impl.GateMaxGrants + 1 {
		got := impl.HallFirst(impl.HallHouse{Teams: yardTeams(), Grants: manyGrants(n)})
		if got.Gate.Now != n || got.Gate.Given != n || len(got.Gate.Grants) != n || got.Gate.Tick != 0 {
			t.Errorf("%d grants: %+v", n, got)
		}
		if len(got.Gate.Objects)+len(got.Gate.Ledgers)+len(got.Gate.Purses) != 0 || !sameWhole(got.Stew, impl.StewBook{}) {
			t.Errorf("%d grants: there is something already: %+v", n, got)
		}
	}
}

func TestTheFirstBooksOfAHouseThatIsNotOk(t *testing.T) {
	for what, h := range wrongHouses() {
		if got := impl.HallFirst(h); !sameWhole(got, impl.HallBook{}) {
			t.Errorf("%s: %+v", what, got)
		}
	}
}

// What the first grants give, and nothing else, may be done in the first book.
func TestRightsInTheFirstBooks(t *testing.T) {
	h := yardHouse()
	l, b := impl.HallLaw(h), impl.HallFirst(h).Gate
	for _, c := range []struct {
		who  string
		act  impl.GateAct
		want bool
	}{
		{"ann", act(impl.GateEnd, "service", "shed", "x"), true},
		{"bob", act(impl.GateMake, "service", "gang", "web"), true},
		{"bob", act(impl.GateMake, "service", "shed", "web"), false},
		{"bob", act(impl.GateMake, "service", "dock", "db"), false},
		{"bob", act(impl.GateEnd, "service", "dock", "web"), false},
		{"cyd", act(impl.GateMake, "service", "dock", "web"), false},
	} {
		if got := impl.GateMay(l, b, c.who, c.act); got != c.want {
			t.Errorf("%s may do %+v: %v", c.who, c.act, got)
		}
	}
}
