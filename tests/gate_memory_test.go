package tests

import (
	"reflect"
	"slices"
	"testing"

	"loop.example/wharfhall/impl"
)

// roomy gives a list with sentinels in the room behind its end, and all of its memory.
func roomy(list ...string) (short []string, all []string) {
	all = append(slices.Clone(list), "behind-1", "behind-2", "behind-3")
	return all[:len(list)], all
}

// roomyShapes gives shapes whose lists all have sentinels behind their ends, and the memory of all shapes.
func roomyShapes() (short []impl.GateShape, all []impl.GateShape) {
	all = append(harbourShapes(), impl.GateShape{Kind: "behind"})
	for i, s := range all {
		for j, f := range s.Fields {
			s.Fields[j].Words, _ = roomy(f.Words...)
		}
		n := len(s.Fields)
		all[i].Fields = append(s.Fields, impl.GateField{Name: "behind"})[:n]
	}
	return all[:len(all)-1], all
}

// whole opens all lists of shapes to the end of their memory.
func whole(all []impl.GateShape) []impl.GateShape {
	out := slices.Clone(all)
	for i, s := range out {
		out[i].Fields = slices.Clone(s.Fields[:len(s.Fields)+1])
		for j, f := range out[i].Fields {
			out[i].Fields[j].Words = slices.Clone(f.Words[:cap(f.Words)])
		}
	}
	return out
}

// scribble writes into every place of a list, its spare room included.
func scribble(list []string) {
	list = list[:cap(list)]
	for i := range list {
		list[i] = "scribble"
	}
}

// objectCases are objects that are filled, and such as are given as they are.
func objectCases() []impl.GateObject {
	empty := crane()
	empty.Values = []string{"", "", ""}
	unknown := crane()
	unknown.Kind = "none"
	few := crane()
	few.Values = []string{""}
	return []impl.GateObject{crane(), empty, unknown, few, {Kind: "stone"}}
}

func craneMends() []impl.GateMend {
	return []impl.GateMend{
		{Kind: "crane", Field: "label", From: "colour"},
		{Kind: "crane", Field: "lift", When: "label", Is: "red", Put: "9"},
	}
}

// objectAnswers are the functions that answer an object, by their names.
func objectAnswers() map[string]func(o impl.GateObject) impl.GateObject {
	return map[string]func(o impl.GateObject) impl.GateObject{
		"GateFill":   func(o impl.GateObject) impl.GateObject { return impl.GateFill(harbourShapes(), o) },
		"GateMended": func(o impl.GateObject) impl.GateObject { return impl.GateMended(harbourShapes(), craneMends(), o) },
		"GateShaped": func(o impl.GateObject) impl.GateObject { return impl.GateShaped(harbourShapes(), craneMends(), o) },
		"GateShaped by no mends that are ok": func(o impl.GateObject) impl.GateObject {
			return impl.GateShaped(harbourShapes(), []impl.GateMend{{}}, o)
		},
	}
}

func TestNoArgumentIsWrittenInto(t *testing.T) {
	for i, o := range objectCases() {
		values, allValues := roomy(o.Values...)
		holds, allHolds := roomy(o.Holds...)
		o.Values, o.Holds = values, holds
		wantValues, wantHolds := slices.Clone(allValues), slices.Clone(allHolds)
		shapes, allShapes := roomyShapes()
		shapesBefore := whole(allShapes)
		allMends := append(craneMends(), impl.GateMend{Kind: "behind"})
		mends := allMends[:len(allMends)-1]
		mendsBefore := slices.Clone(allMends)
		impl.GateFits(shapes[0].Fields[1], "red")
		impl.GateShapesOk(shapes)
		impl.GateFill(shapes, o)
		impl.GateCheck(shapes, o)
		impl.GateTurned(shapes, o, o)
		impl.GateMendsOk(shapes, mends)
		impl.GateMended(shapes, mends, o)
		impl.GateShaped(shapes, mends, o)
		if !slices.Equal(allMends, mendsBefore) {
			t.Errorf("case %d: the mends are now %+v", i, allMends)
		}
		if !slices.Equal(allValues, wantValues) || !slices.Equal(allHolds, wantHolds) {
			t.Errorf("case %d: the object is now %q, %q", i, allValues, allHolds)
		}
		if got := whole(allShapes); !reflect.DeepEqual(got, shapesBefore) {
			t.Errorf("case %d: the shapes are now %+v", i, got)
		}
	}
}

func TestAnswersShareNoMemory(t *testing.T) {
	for name, answer := range objectAnswers() {
		for i, o := range objectCases() {
			values, allValues := roomy(o.Values...)
			holds, allHolds := roomy(o.Holds...)
			o.Values, o.Holds = values, holds
			wantValues, wantHolds := slices.Clone(allValues), slices.Clone(allHolds)
			got := answer(o)
			scribble(got.Values)
			scribble(got.Holds)
			if !slices.Equal(allValues, wantValues) || !slices.Equal(allHolds, wantHolds) {
				t.Errorf("%s, case %d: the argument is now %q, %q", name, i, allValues, allHolds)
			}
		}
	}
}

func TestListsOfAnAnswerShareNoMemory(t *testing.T) {
	for name, answer := range objectAnswers() {
		for _, kind := range []string{"crane", "none"} {
			row := []string{"1", "2", "3"}
			got := answer(impl.GateObject{Kind: kind, Values: row, Holds: row})
			scribble(got.Values)
			if !slices.Equal(got.Holds, []string{"1", "2", "3"}) || !slices.Equal(row, []string{"1", "2", "3"}) {
				t.Errorf("%s, %s: Values and Holds share memory: %+v", name, kind, got)
			}
		}
	}
}

// roomyRule gives a rule with sentinels behind its verbs, and all of their memory.
func roomyRule() (r impl.GateRule, all []int) {
	all = []int{impl.GateMake, impl.GateEnd, impl.GateGive, 99, 98}
	return impl.GateRule{Verbs: all[:3], Team: "dock", Prefix: "n"}, all
}

func TestNoRightIsWrittenInto(t *testing.T) {
	for _, kind := range []string{"", "crane", "No Kind"} {
		r, mine := roomyRule()
		r.Kind = kind
		other, others := roomyRule()
		allTeams := append(yardTeams(), impl.GateTeam{Name: "behind"}, impl.GateTeam{Name: "behind"})
		allRules := []impl.GateRule{other, {Verbs: verbs(4)}, {Kind: "behind"}, {Kind: "behind"}}
		teams, list := allTeams[:len(allTeams)-2], allRules[:2]
		teamsBefore, verbsBefore := slices.Clone(allTeams), slices.Clone(mine)
		told := [2]impl.GateAct{}
		for i := range told {
			impl.GateUnder(teams, "gang", "yard")
			impl.GateTeamsOk(teams)
			impl.GateAllows(teams, r, act(1, kind, "gang", "n1"))
			impl.GateCovers(teams, list, r)
			told[i], _ = impl.GateUncovered(teams, list, rule(r.Verbs, r.Kind, "", ""))
		}
		if told[0] != told[1] {
			t.Errorf("%+v, then %+v", told[0], told[1])
		}
		if !slices.Equal(allTeams, teamsBefore) || !slices.Equal(mine, verbsBefore) || !slices.Equal(others, verbsBefore) {
			t.Errorf("the teams are now %+v, the verbs %v and %v", allTeams, mine, others)
		}
		rulesBefore := []impl.GateRule{other, {Verbs: verbs(4)}, {Kind: "behind"}, {Kind: "behind"}}
		if !reflect.DeepEqual(allRules, rulesBefore) {
			t.Errorf("the rules are now %+v", allRules)
		}
	}
}

// An act that was told stays the same when the arguments are spoiled.
func TestAnActSharesNoMemory(t *testing.T) {
	teams, list := yardTeams(), rules(rule(verbs(1), "crane", "dock", "n"))
	r := rule(verbs(1, 2), "", "dock", "n")
	told, ok := impl.GateUncovered(teams, list, r)
	r.Verbs[0], list[0], teams[0] = 9, impl.GateRule{}, impl.GateTeam{}
	if !ok || told != act(1, "k0", "dock", "n") {
		t.Errorf("%+v, %v", told, ok)
	}
}

// A default is read, not shared, and the same call gives the same answer again.
func TestCallsKeepNothing(t *testing.T) {
	shapes := harbourShapes()
	o := crane()
	o.Values[1] = ""
	first := impl.GateFill(shapes, o)
	scribble(first.Values)
	if second := impl.GateFill(shapes, o); second.Values[1] != "green" {
		t.Errorf("%+v", second)
	}
	impl.GateShapesOk([]impl.GateShape{{}})
	if !impl.GateShapesOk(shapes) {
		t.Error("shapes that were ok are not ok any more")
	}
	shaped := impl.GateShaped(shapes, craneMends(), o)
	impl.GateMended(shapes, []impl.GateMend{{}}, o)
	if again := impl.GateShaped(shapes, craneMends(), o); !sameObject(shaped, again) {
		t.Errorf("%+v, then %+v", shaped, again)
	}
}
