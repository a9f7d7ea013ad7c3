package tests

import (
	"strconv"
	"testing"

	"loop.example/wharfhall/impl"
)

func TestUnder(t *testing.T) {
	teams := yardTeams()
	for _, pair := range [][2]string{{"gang", "gang"}, {"gang", "dock"}, {"gang", "yard"}, {"shed", "yard"}, {"mill", "mill"}, {"none", "none"}, {"", ""}} {
		wantUnder(t, teams, pair[0], pair[1], true)
	}
	for _, pair := range [][2]string{{"dock", "gang"}, {"yard", "gang"}, {"gang", "shed"}, {"shed", "dock"}, {"gang", "mill"}, {"none", "yard"}, {"yard", "none"}, {"yard", ""}, {"gang", ""}, {"", "yard"}, {"none", ""}} {
		wantUnder(t, teams, pair[0], pair[1], false)
	}
}

func TestUnderGoesGateMaxDeepTimes(t *testing.T) {
	teams := chain(impl.GateMaxDeep + 2)
	for i := range teams {
		wantUnder(t, teams, teams[0].Name, teams[i].Name, i <= impl.GateMaxDeep)
	}
	last := impl.GateMaxDeep + 1
	wantUnder(t, teams, teams[1].Name, teams[last].Name, true)
	wantUnder(t, teams, teams[last].Name, teams[0].Name, false)
}

// GateUnder asks not whether the teams are ok.
func TestUnderOfTeamsThatAreNotOk(t *testing.T) {
	circle := []impl.GateTeam{{Name: "a", Over: "b"}, {Name: "b", Over: "c"}, {Name: "c", Over: "a"}}
	for _, a := range []string{"a", "b", "c"} {
		for _, b := range []string{"a", "b", "c"} {
			wantUnder(t, circle, a, b, true)
		}
		wantUnder(t, circle, a, "d", false)
		wantUnder(t, circle, a, "", false)
	}
	self := []impl.GateTeam{{Name: "a", Over: "a"}}
	wantUnder(t, self, "a", "a", true)
	wantUnder(t, self, "a", "b", false)
	twice := []impl.GateTeam{{Name: "z", Over: "x"}, {Name: "a", Over: "b"}, {Name: "a", Over: "c"}}
	wantUnder(t, twice, "a", "b", true)
	wantUnder(t, twice, "a", "c", false)
	wantUnder(t, twice, "z", "x", true)
	first := []impl.GateTeam{{Name: "a"}, {Name: "a", Over: "c"}}
	wantUnder(t, first, "a", "c", false)
	nameless := []impl.GateTeam{{Name: "", Over: "b"}, {Name: "a", Over: ""}}
	wantUnder(t, nameless, "", "b", true)
	wantUnder(t, nameless, "a", "b", false)
	wantUnder(t, nameless, "a", "", false)
	odd := []impl.GateTeam{{Name: "No Name", Over: "\xff"}}
	wantUnder(t, odd, "No Name", "\xff", true)
}

func TestUnderOfNoTeams(t *testing.T) {
	for _, s := range []string{"", "a", "B c"} {
		wantUnder(t, nil, s, s, true)
		wantUnder(t, nil, s, s+"x", false)
		wantUnder(t, nil, s+"x", s, false)
	}
}

func TestTeamsOk(t *testing.T) {
	wantTeams(t, nil, true)
	wantTeams(t, []impl.GateTeam{}, true)
	wantTeams(t, yardTeams(), true)
	wantTeams(t, chain(impl.GateMaxDeep+1), true)
	for _, name := range goodNames() {
		wantTeams(t, []impl.GateTeam{{Name: name}}, true)
	}
	for what, teams := range wrongTeams() {
		if impl.GateTeamsOk(teams) {
			t.Errorf("%s: ok", what)
		}
	}
}

func TestTeamsAtTheirMost(t *testing.T) {
	full := make([]impl.GateTeam, impl.GateMaxTeams)
	for i, name := range names(impl.GateMaxTeams) {
		full[i] = impl.GateTeam{Name: name}
	}
	wantTeams(t, full, true)
	wantTeams(t, append(full, impl.GateTeam{Name: "z"}), false)
	// Two chains of as many teams as may be, one behind the other in the list.
	deep := chain(2 * (impl.GateMaxDeep + 1))
	deep[impl.GateMaxDeep].Over = ""
	wantTeams(t, deep, true)
	deep[impl.GateMaxDeep].Over = deep[impl.GateMaxDeep+1].Name
	wantTeams(t, deep, false)
	deep[impl.GateMaxDeep].Over = deep[len(deep)-1].Name
	wantTeams(t, deep, false)
}

// A chain may go up or down the list: its depth is the same.
func TestTeamsChainedBackwards(t *testing.T) {
	teams := make([]impl.GateTeam, impl.GateMaxDeep+2)
	for i, name := range names(len(teams)) {
		teams[i].Name = name
		if i > 0 {
			teams[i].Over = teams[i-1].Name
		}
	}
	wantTeams(t, teams, false)
	wantTeams(t, teams[:len(teams)-1], true)
}

func TestAllows(t *testing.T) {
	teams := yardTeams()
	r := rule(verbs(1, 3), "crane", "dock", "n-")
	for _, a := range []impl.GateAct{act(1, "crane", "dock", "n-"), act(3, "crane", "dock", "n-1"), act(1, "crane", "gang", "n--")} {
		wantAllows(t, teams, r, a, true)
	}
	for _, a := range []impl.GateAct{
		act(2, "crane", "dock", "n-1"), act(5, "crane", "dock", "n-1"),
		act(1, "pier", "dock", "n-1"), act(1, "", "dock", "n-1"), act(1, "cran", "dock", "n-1"), act(1, "cranes", "dock", "n-1"),
		act(1, "crane", "yard", "n-1"), act(1, "crane", "shed", "n-1"), act(1, "crane", "none", "n-1"), act(1, "crane", "", "n-1"),
		act(1, "crane", "dock", "n"), act(1, "crane", "dock", ""), act(1, "crane", "dock", "an-1"),
	} {
		wantAllows(t, teams, r, a, false)
	}
	wantAllows(t, nil, rule(verbs(1), "", "none", ""), act(1, "k", "none", "n"), true)
	wantAllows(t, nil, rule(verbs(1), "", "none", ""), act(1, "k", "dock", "n"), false)
}

func TestAllowsWhereTheRuleIsEmpty(t *testing.T) {
	teams := yardTeams()
	for _, a := range []impl.GateAct{act(1, "", "", ""), act(2, "crane", "gang", "n"), act(5, "No Kind", "\xff", long(99))} {
		wantAllows(t, teams, openRule(), a, true)
		wantAllows(t, nil, openRule(), a, true)
	}
	wantAllows(t, teams, rule(verbs(4), "", "yard", ""), act(4, "any", "gang", "n"), true)
	wantAllows(t, teams, rule(verbs(4), "pier", "", ""), act(4, "pier", "any", "n"), true)
	wantAllows(t, teams, rule(verbs(4), "", "", "n"), act(4, "any", "any", "nn"), true)
}

func TestAllowsNoVerbThatIsInNoRule(t *testing.T) {
	const great = int(^uint(0) >> 1)
	for _, v := range []int{impl.GateTake, 0, -1, -great - 1, great, 7, 8, 9, 32, 33, 63, 64, 65, 256, 257, 261, 1 << 32, 1<<32 + 1} {
		wantAllows(t, yardTeams(), openRule(), act(v, "crane", "dock", "n"), false)
	}
	for _, v := range allVerbs() {
		for _, w := range allVerbs() {
			wantAllows(t, nil, rule(verbs(v), "", "", ""), act(w, "crane", "dock", "n"), v == w)
		}
	}
}

func TestAllowsTheGreatestRule(t *testing.T) {
	n := impl.GateMaxName
	r := rule(allVerbs(), long(n), long(n), long(n))
	wantAllows(t, nil, r, act(5, long(n), long(n), long(n)), true)
	wantAllows(t, nil, r, act(5, long(n), long(n), long(n+1)), true)
	wantAllows(t, nil, r, act(5, long(n), long(n), long(n-1)), false)
	deep := chain(impl.GateMaxDeep + 1)
	wantAllows(t, deep, rule(verbs(1), "", deep[impl.GateMaxDeep].Name, ""), act(1, "k", deep[0].Name, "n"), true)
	for _, prefix := range append(goodNames(), "") {
		wantAllows(t, nil, rule(verbs(1), "", "", prefix), act(1, "k", "t", prefix+"!"), true)
	}
}

func TestAllowsNothingThatIsNotOk(t *testing.T) {
	for what, r := range wrongRules() {
		for _, v := range append(r.Verbs, 1) {
			if impl.GateAllows(yardTeams(), r, act(v, r.Kind, r.Team, r.Prefix)) {
				t.Errorf("%s: allowed", what)
			}
		}
	}
	for what, teams := range wrongTeams() {
		if impl.GateAllows(teams, openRule(), act(1, "crane", "a", "n")) {
			t.Errorf("%s: allowed", what)
		}
	}
}

func TestCovers(t *testing.T) {
	teams := yardTeams()
	r := rule(verbs(1, 3), "crane", "dock", "n-")
	for _, other := range []impl.GateRule{
		r, openRule(), rule(verbs(1, 2, 3), "crane", "dock", "n-"), rule(verbs(1, 3), "", "dock", "n-"),
		rule(verbs(1, 3), "crane", "", "n-"), rule(verbs(1, 3), "crane", "yard", "n-"), rule(verbs(1, 3), "crane", "dock", "n"), rule(verbs(1, 3), "crane", "dock", ""),
	} {
		wantCovered(t, teams, rules(other), r)
		wantCovered(t, teams, rules(rule(verbs(4), "", "", ""), other), r)
	}
	told := act(1, "crane", "dock", "n-")
	for _, other := range []impl.GateRule{
		rule(verbs(2, 4, 5), "", "", ""), rule(verbs(1, 3), "pier", "dock", "n-"), rule(verbs(1, 3), "crane", "gang", "n-"),
		rule(verbs(1, 3), "crane", "shed", "n-"), rule(verbs(1, 3), "crane", "none", "n-"), rule(verbs(1, 3), "crane", "dock", "n-1"), rule(verbs(1, 3), "crane", "dock", "-"),
	} {
		wantUncovered(t, teams, rules(other), r, told)
	}
	wantUncovered(t, teams, nil, r, told)
	wantUncovered(t, teams, rules(), r, told)
}

func TestCoversVerbsTogether(t *testing.T) {
	teams := yardTeams()
	r := rule(verbs(1, 3, 5), "crane", "dock", "n-")
	one, three, five := rule(verbs(1, 2), "", "dock", ""), rule(verbs(3, 4), "crane", "", "n"), rule(verbs(5), "", "yard", "n-")
	wantCovered(t, teams, rules(one, three, five), r)
	wantCovered(t, teams, rules(five, three, one), r)
	wantUncovered(t, teams, rules(three, five), r, act(1, "crane", "dock", "n-"))
	wantUncovered(t, teams, rules(one, five), r, act(3, "crane", "dock", "n-"))
	wantUncovered(t, teams, rules(three, one), r, act(5, "crane", "dock", "n-"))
	wantUncovered(t, teams, rules(one), r, act(3, "crane", "dock", "n-"))
	// A rule that has the verb, but elsewhere, is of no help.
	wantUncovered(t, teams, rules(one, five, rule(verbs(3), "pier", "", "")), r, act(3, "crane", "dock", "n-"))
	// Neither kinds nor teams nor names are put together of several rules.
	wantUncovered(t, teams, rules(rule(verbs(1), "crane", "", ""), rule(verbs(1), "pier", "", "")), rule(verbs(1), "", "dock", ""), act(1, "k0", "dock", ""))
	wantUncovered(t, teams, rules(rule(verbs(1), "", "dock", ""), rule(verbs(1), "", "shed", "")), rule(verbs(1), "", "yard", ""), act(1, "k0", "yard", ""))
	wantUncovered(t, teams, rules(rule(verbs(1), "pier", "mill", ""), rule(verbs(1), "pier", "yard", "")), rule(verbs(1), "pier", "", "n"), act(1, "pier", "t0", "n"))
}

// An empty team is covered by an empty one alone; so is an empty kind.
func TestCoversWhereTheRuleIsEmpty(t *testing.T) {
	teams := yardTeams()
	bare := rule(verbs(2), "", "", "")
	wantCovered(t, teams, rules(openRule()), bare)
	wantCovered(t, nil, rules(bare), bare)
	for _, team := range []string{"yard", "dock", "gang", "mill", "none", "t0"} {
		want := "t0"
		if team == "t0" {
			want = "t1"
		}
		wantUncovered(t, teams, rules(rule(allVerbs(), "", team, "")), bare, act(2, "k0", want, ""))
		wantCovered(t, teams, rules(openRule()), rule(verbs(2), "", team, ""))
	}
	wantUncovered(t, teams, rules(rule(allVerbs(), "crane", "", "")), bare, act(2, "k0", "t0", ""))
	wantCovered(t, teams, rules(rule(allVerbs(), "", "", "")), rule(verbs(2), "crane", "", ""))
	wantUncovered(t, teams, rules(rule(allVerbs(), "", "", "n")), bare, act(2, "k0", "t0", ""))
	wantCovered(t, teams, rules(bare), rule(verbs(2), "", "", "n"))
	wantUncovered(t, nil, nil, openRule(), act(1, "k0", "t0", ""))
}

func TestCoversAPrefixAtItsMost(t *testing.T) {
	n := impl.GateMaxName
	full := rule(verbs(1), "k", "t", long(n))
	wantCovered(t, nil, rules(full), full)
	wantCovered(t, nil, rules(rule(verbs(1), "k", "t", long(n-1))), full)
	wantUncovered(t, nil, rules(full), rule(verbs(1), "k", "t", long(n-1)), act(1, "k", "t", long(n-1)))
	wantNeither(t, nil, rules(rule(verbs(1), "k", "t", "")), rule(verbs(1), "k", "t", long(n+1)))
	wantNeither(t, nil, rules(rule(verbs(1), "k", "t", long(n+1))), full)
}

func TestCoversATeamAtItsDepth(t *testing.T) {
	deep := chain(impl.GateMaxDeep + 1)
	for i := range deep {
		for j := range deep {
			above, r := rule(verbs(1), "k", deep[j].Name, ""), rule(verbs(1), "k", deep[i].Name, "")
			if i <= j {
				wantCovered(t, deep, rules(above), r)
			} else {
				wantUncovered(t, deep, rules(above), r, act(1, "k", deep[i].Name, ""))
			}
		}
	}
}

func TestUncoveredTakesKindsThatNoRuleHas(t *testing.T) {
	r := rule(verbs(1), "", "dock", "n")
	for _, c := range []struct {
		taken []string
		want  string
	}{
		{nil, "k0"}, {[]string{"k1"}, "k0"}, {[]string{"k0"}, "k1"}, {[]string{"k1", "k0"}, "k2"}, {[]string{"k0", "k2"}, "k1"},
		{[]string{"k00", "k", "k01", "t0", "0"}, "k0"}, {[]string{"k0", "k0", "k0"}, "k1"},
	} {
		var list []impl.GateRule
		for _, kind := range c.taken {
			list = append(list, rule(verbs(3), kind, "t0", ""))
		}
		wantUncovered(t, yardTeams(), list, r, act(1, c.want, "dock", "n"))
	}
	// The kind of r itself, and a team, take none away.
	wantUncovered(t, []impl.GateTeam{{Name: "k0"}}, rules(rule(verbs(1), "x", "k0", "k0")), rule(verbs(1), "", "k0", "k0"), act(1, "k0", "k0", "k0"))
}

func TestUncoveredTakesTeamsThatNobodyHas(t *testing.T) {
	r := rule(verbs(1), "crane", "", "n")
	for _, c := range []struct {
		teams, taken []string
		want         string
	}{
		{nil, nil, "t0"}, {[]string{"t0"}, nil, "t1"}, {nil, []string{"t0"}, "t1"}, {[]string{"t1"}, nil, "t0"},
		{[]string{"t0", "t2"}, []string{"t1", "t3"}, "t4"}, {[]string{"t1"}, []string{"t0"}, "t2"},
		{[]string{"t", "t00"}, []string{"t01", "k0"}, "t0"}, {[]string{"t0"}, []string{"t0"}, "t1"},
	} {
		var teams []impl.GateTeam
		for _, name := range c.teams {
			teams = append(teams, impl.GateTeam{Name: name})
		}
		var list []impl.GateRule
		for _, team := range c.taken {
			list = append(list, rule(verbs(3), "k0", team, ""))
		}
		wantUncovered(t, teams, list, r, act(1, "crane", c.want, "n"))
	}
}

// The numbers go on behind 9, as decimals.
func TestUncoveredCountsOn(t *testing.T) {
	var list []impl.GateRule
	for i := range 12 {
		number := strconv.Itoa(i)
		list = append(list, rule(verbs(5), "k"+number, "t"+number, ""))
		next := strconv.Itoa(i + 1)
		wantUncovered(t, nil, list, openRule(), act(1, "k"+next, "t"+next, ""))
	}
	var many []impl.GateRule
	for i := range 1000 {
		many = append(many, rule(verbs(5), "k"+strconv.Itoa(999-i), "", ""))
	}
	wantUncovered(t, nil, many, openRule(), act(1, "k1000", "t0", ""))
}

func TestCoversNothingThatIsNotOk(t *testing.T) {
	r := rule(verbs(1), "crane", "dock", "n")
	for _, wrong := range wrongRules() {
		wantNeither(t, yardTeams(), rules(openRule()), wrong)
		wantNeither(t, yardTeams(), rules(wrong), wrong)
		wantNeither(t, yardTeams(), rules(wrong), r)
		wantNeither(t, yardTeams(), rules(wrong, openRule()), r)
		wantNeither(t, yardTeams(), rules(openRule(), wrong), r)
	}
	for _, teams := range wrongTeams() {
		wantNeither(t, teams, rules(openRule()), r)
		wantNeither(t, teams, nil, r)
	}
}
