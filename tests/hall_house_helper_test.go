package tests

import (
	"reflect"
	"slices"
	"testing"

	"loop.example/wharfhall/impl"
)

// sameWhole holds a nil list and an empty one to be the same, however deep they lie.
func sameWhole[T any](a, b T) bool {
	return reflect.DeepEqual(withRoom(a), withRoom(b))
}

func yardHouse() impl.HallHouse {
	return impl.HallHouse{Teams: yardTeams(), Grants: []impl.GateGrant{
		grant(1, "ann", "", openRule()),
		grant(2, "bob", "", rule(verbs(impl.GateMake, impl.GateChange), "service", "dock", "w")),
		grant(3, "ann", "", rule(verbs(impl.GateEnd), "", "mill", "")),
	}}
}

// okHouses are houses that are ok, the least and the greatest among them.
func okHouses() map[string]impl.HallHouse {
	return map[string]impl.HallHouse{
		"nothing":         {},
		"empty lists":     {Teams: []impl.GateTeam{}, Grants: []impl.GateGrant{}},
		"teams alone":     {Teams: yardTeams()},
		"grants alone":    {Grants: manyGrants(2)},
		"one of each":     {Teams: chain(1), Grants: manyGrants(1)},
		"several":         yardHouse(),
		"most grants":     {Teams: yardTeams(), Grants: manyGrants(impl.GateMaxGrants)},
		"most teams":      {Teams: manyTeams(impl.GateMaxTeams), Grants: manyGrants(1)},
		"deepest teams":   {Teams: chain(impl.GateMaxDeep + 1)},
		"a foreign rule":  {Grants: []impl.GateGrant{grant(1, "ann", "", rule(verbs(1), "crane", "nowhere", long(16)))}},
		"the longest To":  {Grants: []impl.GateGrant{grant(1, long(impl.GateMaxName), "", openRule())}},
		"the shortest To": {Grants: []impl.GateGrant{grant(1, "-", "", openRule())}},
	}
}

func manyTeams(n int) []impl.GateTeam {
	list := make([]impl.GateTeam, n)
	for i, name := range names(n) {
		list[i].Name = name
	}
	return list
}

// spoiledHouse is yardHouse with one grant turned.
func spoiledHouse(at int, spoil func(g *impl.GateGrant)) impl.HallHouse {
	h := yardHouse()
	spoil(&h.Grants[at])
	return h
}

// wrongHouses are houses that are not ok, by what is wrong with them.
func wrongHouses() map[string]impl.HallHouse {
	out := map[string]impl.HallHouse{
		"one grant too many":   {Teams: yardTeams(), Grants: manyGrants(impl.GateMaxGrants + 1)},
		"many grants too many": {Teams: yardTeams(), Grants: manyGrants(100)},
		"grants turned around": {Teams: yardTeams(), Grants: reversed(manyGrants(2))},
		"the first is missing": {Teams: yardTeams(), Grants: manyGrants(3)[1:]},
		"one is missing":       {Teams: yardTeams(), Grants: slices.Delete(manyGrants(3), 1, 2)},
		"one is there twice":   {Teams: yardTeams(), Grants: slices.Insert(manyGrants(3), 1, manyGrants(1)...)},
	}
	for what, teams := range wrongTeams() {
		out["teams, "+what] = impl.HallHouse{Teams: teams, Grants: yardHouse().Grants}
		out["teams without grants, "+what] = impl.HallHouse{Teams: teams}
	}
	for at := range yardHouse().Grants {
		for _, n := range []int{-1 << 62, -1, 0, at, at + 2, at + 100, 1 << 62} {
			out["the Number "+count(n)+" at "+count(at)] = spoiledHouse(at, func(g *impl.GateGrant) { g.Number = n })
		}
		for _, s := range notNames() {
			out["the To "+s+" at "+count(at)] = spoiledHouse(at, func(g *impl.GateGrant) { g.To = s })
		}
		for _, s := range []string{"ann", "x", "A", " ", "*", long(17), "\x00"} {
			out["the By "+s+" at "+count(at)] = spoiledHouse(at, func(g *impl.GateGrant) { g.By = s })
		}
		for what, r := range wrongRules() {
			out["the Rule with "+what+" at "+count(at)] = spoiledHouse(at, func(g *impl.GateGrant) { g.Rule = r })
		}
	}
	return out
}

func reversed[T any](list []T) []T {
	slices.Reverse(list)
	return list
}

func wantHouse(t *testing.T, what string, h impl.HallHouse, want bool) {
	t.Helper()
	if got := impl.HallHouseOk(h); got != want {
		t.Errorf("%s: HallHouseOk of %+v = %v", what, h, got)
	}
}
