package tests

import (
	"slices"
	"testing"

	"loop.example/wharfhall/impl"
)

// yardTeams has a chain of three, a team beside it, and one that stands alone.
func yardTeams() []impl.GateTeam {
	return []impl.GateTeam{{Name: "dock", Over: "yard"}, {Name: "gang", Over: "dock"}, {Name: "mill"}, {Name: "shed", Over: "yard"}, {Name: "yard"}}
}

// chain gives teams of which each but the last stands in the next one.
func chain(n int) []impl.GateTeam {
	list := make([]impl.GateTeam, n)
	for i, name := range names(n) {
		list[i].Name = name
		if i > 0 {
			list[i-1].Over = name
		}
	}
	return list
}

func verbs(list ...int) []int {
	return list
}

func allVerbs() []int {
	return []int{impl.GateMake, impl.GateChange, impl.GateEnd, impl.GateLetGo, impl.GateGive}
}

func rule(verbs []int, kind, team, prefix string) impl.GateRule {
	return impl.GateRule{Verbs: verbs, Kind: kind, Team: team, Prefix: prefix}
}

func rules(list ...impl.GateRule) []impl.GateRule {
	return list
}

func act(verb int, kind, team, name string) impl.GateAct {
	return impl.GateAct{Verb: verb, Kind: kind, Team: team, Name: name}
}

// openRule allows all that a rule can allow.
func openRule() impl.GateRule {
	return rule(allVerbs(), "", "", "")
}

// wrongRules are rules that are not ok, by what is wrong with them.
func wrongRules() map[string]impl.GateRule {
	out := map[string]impl.GateRule{
		"no verbs":                rule(nil, "", "", ""),
		"an empty list of verbs":  rule(verbs(), "", "", ""),
		"a verb twice":            rule(verbs(1, 1), "", "", ""),
		"verbs that go down":      rule(verbs(2, 1), "", "", ""),
		"verbs that go down late": rule(verbs(1, 3, 2), "", "", ""),
		"the verb 0":              rule(verbs(0), "", "", ""),
		"0 ahead of others":       rule(verbs(0, 1), "", "", ""),
		"the verb -1":             rule(verbs(-1, 2), "", "", ""),
		"the verb 6":              rule(verbs(impl.GateTake), "", "", ""),
		"6 behind all others":     rule(append(allVerbs(), impl.GateTake), "", "", ""),
		"a great verb":            rule(verbs(1, 1<<40), "", "", ""),
		"a prefix of 17 bytes":    rule(verbs(1), "", "", long(impl.GateMaxName+1)),
	}
	for _, s := range notNames() {
		if s == "" {
			continue
		}
		out["the kind "+s] = rule(verbs(1), s, "", "")
		out["the team "+s] = rule(verbs(1), "", s, "")
		out["the prefix "+s] = rule(verbs(1), "", "", s)
	}
	return out
}

// wrongTeams are teams that are not ok, by what is wrong with them.
func wrongTeams() map[string][]impl.GateTeam {
	out := map[string][]impl.GateTeam{
		"not ascending":        {{Name: "b"}, {Name: "a"}},
		"twice there":          {{Name: "a"}, {Name: "a"}},
		"not ascending late":   {{Name: "a"}, {Name: "c"}, {Name: "b"}},
		"over itself":          {{Name: "a", Over: "a"}},
		"over one another":     {{Name: "a", Over: "b"}, {Name: "b", Over: "a"}},
		"a circle of three":    {{Name: "a", Over: "b"}, {Name: "b", Over: "c"}, {Name: "c", Over: "a"}},
		"a way into a circle":  {{Name: "a", Over: "b"}, {Name: "b", Over: "c"}, {Name: "c", Over: "b"}},
		"one team too many":    make([]impl.GateTeam, 0, impl.GateMaxTeams+1),
		"five over a team":     chain(impl.GateMaxDeep + 2),
		"Over is none of them": {{Name: "a", Over: "b"}},
		"Over is no name":      {{Name: "a", Over: "B"}},
	}
	for _, name := range names(impl.GateMaxTeams + 1) {
		out["one team too many"] = append(out["one team too many"], impl.GateTeam{Name: name})
	}
	for _, s := range notNames() {
		out["the name "+s] = []impl.GateTeam{{Name: s}}
	}
	return out
}

func wantUnder(t *testing.T, teams []impl.GateTeam, a, b string, want bool) {
	t.Helper()
	if got := impl.GateUnder(teams, a, b); got != want {
		t.Errorf("GateUnder(%+v, %q, %q) = %v", teams, a, b, got)
	}
}

func wantTeams(t *testing.T, teams []impl.GateTeam, want bool) {
	t.Helper()
	if got := impl.GateTeamsOk(teams); got != want {
		t.Errorf("GateTeamsOk(%+v) = %v", teams, got)
	}
}

func wantAllows(t *testing.T, teams []impl.GateTeam, r impl.GateRule, a impl.GateAct, want bool) {
	t.Helper()
	if got := impl.GateAllows(teams, r, a); got != want {
		t.Errorf("GateAllows(%+v, %+v, %+v) = %v", teams, r, a, got)
	}
}

// wantCovered asks both functions that tell of covering.
func wantCovered(t *testing.T, teams []impl.GateTeam, list []impl.GateRule, r impl.GateRule) {
	t.Helper()
	if !impl.GateCovers(teams, list, r) {
		t.Errorf("GateCovers(%+v, %+v, %+v) = false", teams, list, r)
	}
	wantNoAct(t, teams, list, r)
}

func wantUncovered(t *testing.T, teams []impl.GateTeam, list []impl.GateRule, r impl.GateRule, want impl.GateAct) {
	t.Helper()
	if impl.GateCovers(teams, list, r) {
		t.Errorf("GateCovers(%+v, %+v, %+v) = true", teams, list, r)
	}
	if got, ok := impl.GateUncovered(teams, list, r); !ok || got != want {
		t.Errorf("GateUncovered(%+v, %+v, %+v) = %+v, %v", teams, list, r, got, ok)
	}
}

// wantNeither is of what is not ok: it is not covered, and no act is told.
func wantNeither(t *testing.T, teams []impl.GateTeam, list []impl.GateRule, r impl.GateRule) {
	t.Helper()
	if impl.GateCovers(teams, list, r) {
		t.Errorf("GateCovers(%+v, %+v, %+v) = true", teams, list, r)
	}
	wantNoAct(t, teams, list, r)
}

func wantNoAct(t *testing.T, teams []impl.GateTeam, list []impl.GateRule, r impl.GateRule) {
	t.Helper()
	if got, ok := impl.GateUncovered(teams, list, r); ok || got != (impl.GateAct{}) {
		t.Errorf("GateUncovered(%+v, %+v, %+v) = %+v, %v", teams, list, r, got, ok)
	}
}

// anyAllows says whether one of rules allows an act.
func anyAllows(teams []impl.GateTeam, list []impl.GateRule, a impl.GateAct) bool {
	return slices.ContainsFunc(list, func(r impl.GateRule) bool { return impl.GateAllows(teams, r, a) })
}
