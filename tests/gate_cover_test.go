package tests

import (
	"slices"
	"strings"
	"testing"

	"loop.example/wharfhall/impl"
)

const coverCases = 4000

// What the dice make rules and acts of. The world of acts has beside it a kind, a team and a name
// that no rule names, so that what holds of all its acts holds of all acts.
var (
	diceKinds    = []string{"", "crane", "k0"}
	diceTeams    = []string{"", "a", "b", "c", "t0", "t1"}
	dicePrefixes = []string{"", "n", "n1", "n12", "m"}
)

func worldOfActs() []impl.GateAct {
	var acts []impl.GateAct
	for verb := -1; verb <= impl.GateTake+1; verb++ {
		for _, kind := range append(slices.Clone(diceKinds), "other") {
			for _, team := range append(slices.Clone(diceTeams), "other") {
				for _, name := range append(slices.Clone(dicePrefixes), "other") {
					acts = append(acts, act(verb, kind, team, name))
				}
			}
		}
	}
	return acts
}

// diceYard gives teams that are ok, of those that rules name.
func diceYard(d *dice) []impl.GateTeam {
	var teams []impl.GateTeam
	for _, name := range []string{"a", "b", "c", "t0"} {
		if d.below(5) > 0 {
			teams = append(teams, impl.GateTeam{Name: name})
		}
	}
	order := oneOf(d, orders(len(teams))...)
	for i := 1; i < len(order); i++ {
		if d.below(4) > 0 {
			teams[order[i]].Over = teams[order[d.below(i)]].Name
		}
	}
	return teams
}

func diceRule(d *dice) impl.GateRule {
	r := impl.GateRule{Kind: oneOf(d, diceKinds...), Team: oneOf(d, diceTeams...), Prefix: oneOf(d, dicePrefixes...)}
	for _, v := range allVerbs() {
		if d.below(2) == 0 {
			r.Verbs = append(r.Verbs, v)
		}
	}
	if r.Verbs == nil {
		r.Verbs = verbs(1 + d.below(5))
	}
	return r
}

func diceRules(d *dice) []impl.GateRule {
	var list []impl.GateRule
	for range d.below(6) {
		r := diceRule(d)
		// Wide rules are rare by themselves, and cover much.
		switch d.below(4) {
		case 0:
			r.Kind, r.Prefix = "", ""
		case 1:
			r.Team = ""
		}
		list = append(list, r)
	}
	return list
}

// allowsByHand goes by the document's words, from the act's team up.
func allowsByHand(teams []impl.GateTeam, r impl.GateRule, a impl.GateAct) bool {
	met := []string{a.Team}
	for team := a.Team; team != ""; {
		over := ""
		for _, t := range teams {
			if t.Name == team {
				over = t.Over
			}
		}
		met = append(met, over)
		team = over
	}
	return slices.Contains(r.Verbs, a.Verb) && (r.Kind == "" || r.Kind == a.Kind) &&
		(r.Team == "" || slices.Contains(met, r.Team)) && strings.HasPrefix(a.Name, r.Prefix)
}

func TestAllowsByHand(t *testing.T) {
	d := &dice{state: 11}
	acts := worldOfActs()
	allowed := 0
	for range 200 {
		teams, r := diceYard(d), diceRule(d)
		for _, a := range acts {
			want := allowsByHand(teams, r, a)
			wantAllows(t, teams, r, a, want)
			if want {
				allowed++
			}
		}
	}
	if allowed < 1000 {
		t.Errorf("the cases are poor: %d allowed", allowed)
	}
}

// Covered is what holds of all acts: those that the rule allows are allowed by one of the rules.
func TestCoversIsSoundAndWhole(t *testing.T) {
	d := &dice{state: 3}
	acts := worldOfActs()
	covered, uncovered := 0, 0
	for range coverCases {
		teams, list, r := diceYard(d), diceRules(d), diceRule(d)
		want := !slices.ContainsFunc(acts, func(a impl.GateAct) bool {
			return allowsByHand(teams, r, a) && !slices.ContainsFunc(list, func(o impl.GateRule) bool { return allowsByHand(teams, o, a) })
		})
		if got := impl.GateCovers(teams, list, r); got != want {
			t.Fatalf("GateCovers(%+v, %+v, %+v) = %v", teams, list, r, got)
		}
		if want {
			covered++
			wantNoAct(t, teams, list, r)
			continue
		}
		uncovered++
		a, ok := impl.GateUncovered(teams, list, r)
		if !ok || !impl.GateAllows(teams, r, a) || anyAllows(teams, list, a) || !allowsByHand(teams, r, a) {
			t.Fatalf("GateUncovered(%+v, %+v, %+v) = %+v, %v", teams, list, r, a, ok)
		}
	}
	if covered < 200 || uncovered < 200 {
		t.Errorf("the cases are poor: %d covered, %d not", covered, uncovered)
	}
}

// narrowed gives a rule that another one covers.
func narrowed(d *dice, teams []impl.GateTeam, r impl.GateRule) impl.GateRule {
	out := r
	if out.Kind == "" {
		out.Kind = oneOf(d, diceKinds...)
	}
	team := oneOf(d, diceTeams...)
	if r.Team == "" || impl.GateUnder(teams, team, r.Team) {
		out.Team = team
	}
	out.Prefix += oneOf(d, "", "1", "2")
	out.Verbs = verbs(oneOf(d, r.Verbs...))
	return out
}

func TestCoveringLeadsOn(t *testing.T) {
	d := &dice{state: 8}
	chains := 0
	for range coverCases {
		teams, top := diceYard(d), diceRules(d)
		var middle []impl.GateRule
		for _, r := range top {
			middle = append(middle, narrowed(d, teams, r))
			wantCovered(t, teams, top, middle[len(middle)-1])
		}
		bottom := diceRule(d)
		if len(middle) > 0 && d.below(2) == 0 {
			bottom = narrowed(d, teams, oneOf(d, middle...))
		}
		if impl.GateCovers(teams, middle, bottom) {
			chains++
			wantCovered(t, teams, top, bottom)
		}
	}
	if chains < 200 {
		t.Errorf("the cases are poor: %d chains", chains)
	}
}

// Rules cover one of them, also in another order, and more rules cover no less.
func TestCoversItsOwn(t *testing.T) {
	d := &dice{state: 21}
	for range 500 {
		teams, list, r := diceYard(d), diceRules(d), diceRule(d)
		for _, own := range list {
			wantCovered(t, teams, list, own)
		}
		more := append(slices.Clone(list), diceRule(d))
		if impl.GateCovers(teams, list, r) {
			wantCovered(t, teams, more, r)
		}
		turned := inOrder(list, oneOf(d, orders(len(list))...))
		one, ok := impl.GateUncovered(teams, list, r)
		if other, alsoOk := impl.GateUncovered(teams, turned, r); one != other || ok != alsoOk {
			t.Fatalf("%+v, %v by %+v, but %+v, %v by %+v", one, ok, list, other, alsoOk, turned)
		}
	}
}

// Whatever it is given, a call answers.
func TestRightsAnswerAtAnything(t *testing.T) {
	d := &dice{state: 77}
	word := func() string { return oneOf(d, "", "a", "b", "c", "A", "\xff\x00", long(16), long(17), "k0", "t0") }
	wild := func() impl.GateRule {
		r := impl.GateRule{Kind: word(), Team: word(), Prefix: word()}
		for range d.below(7) {
			r.Verbs = append(r.Verbs, oneOf(d, -1<<62, -1, 0, 1, 2, 3, 4, 5, 6, 64, 1<<62))
		}
		return r
	}
	for range 3000 {
		var teams []impl.GateTeam
		for range d.below(5) {
			teams = append(teams, impl.GateTeam{Name: word(), Over: word()})
		}
		var list []impl.GateRule
		for range d.below(3) {
			list = append(list, wild())
		}
		r := wild()
		a := act(oneOf(d, -1<<62, -1, 0, 1, 5, 6, 64, 1<<62), word(), word(), word())
		impl.GateUnder(teams, a.Team, a.Kind)
		if impl.GateAllows(teams, r, a) && !impl.GateTeamsOk(teams) {
			t.Fatalf("%+v are not ok, but %+v allows %+v", teams, r, a)
		}
		told, ok := impl.GateUncovered(teams, list, r)
		if ok && (impl.GateCovers(teams, list, r) || !impl.GateAllows(teams, r, told)) || !ok && told != (impl.GateAct{}) {
			t.Fatalf("GateUncovered(%+v, %+v, %+v) = %+v, %v", teams, list, r, told, ok)
		}
	}
}
