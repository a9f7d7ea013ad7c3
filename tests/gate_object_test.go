package tests

import (
	"math"
	"slices"
	"testing"

	"loop.example/wharfhall/impl"
)

func sameObject(a, b impl.GateObject) bool {
	return a.Kind == b.Kind && a.Name == b.Name && a.Team == b.Team && a.Ending == b.Ending && a.Version == b.Version &&
		slices.Equal(a.Values, b.Values) && slices.Equal(a.Holds, b.Holds)
}

func wantFill(t *testing.T, shapes []impl.GateShape, o impl.GateObject, values ...string) {
	t.Helper()
	want := o
	want.Values = values
	if got := impl.GateFill(shapes, o); !sameObject(got, want) {
		t.Errorf("GateFill of %+v = %+v", o, got)
	}
}

func TestFillOrdinary(t *testing.T) {
	s := harbourShapes()
	o := crane()
	wantFill(t, s, o, "40", "red", "old!")
	o.Values = []string{"", "", ""}
	wantFill(t, s, o, "", "green", "")
	o.Ending, o.Version = true, 77
	wantFill(t, s, o, "", "green", "")
	// A value that does not fit is not the filling's business.
	o.Values = []string{"x", "purple", " "}
	wantFill(t, s, o, "x", "purple", " ")
	p := pier()
	p.Values = []string{"", "", "", ""}
	wantFill(t, s, p, "0", "", "", "")
	wantFill(t, s, impl.GateObject{Kind: "stone"})
}

func TestFillOfWhatIsNotChecked(t *testing.T) {
	o := impl.GateObject{Kind: "crane", Name: "?", Team: "", Values: []string{"", "", ""}, Holds: []string{"z", "a", "", "a"}, Version: -4}
	wantFill(t, harbourShapes(), o, "", "green", "")
}

func TestFillAsItIs(t *testing.T) {
	o := crane()
	o.Values = []string{"", "", ""}
	spoiled := harbourShapes()
	spoiled[2].Kind = "Stone"
	wantFill(t, spoiled, o, "", "", "")
	wantFill(t, nil, o, "", "", "")
	for _, kind := range []string{"", "cran", "cranes", "Crane"} {
		other := o
		other.Kind = kind
		wantFill(t, harbourShapes(), other, "", "", "")
	}
	for _, values := range [][]string{nil, {}, {"", ""}, {"", "", "", ""}} {
		other := o
		other.Values = values
		wantFill(t, harbourShapes(), other, values...)
	}
}

func wantCheck(t *testing.T, shapes []impl.GateShape, o impl.GateObject, code, place int) {
	t.Helper()
	if c, p := impl.GateCheck(shapes, o); c != code || p != place {
		t.Errorf("GateCheck of %+v = %d, %d; not %d, %d", o, c, p, code, place)
	}
}

func TestCheckOrdinary(t *testing.T) {
	s := harbourShapes()
	wantCheck(t, s, crane(), 0, 0)
	wantCheck(t, s, pier(), 0, 0)
	wantCheck(t, s, impl.GateObject{Kind: "stone", Name: "s", Team: "t"}, 0, 0)
	wantCheck(t, s, impl.GateObject{Kind: "stone", Name: "s", Team: "t", Values: []string{}, Holds: []string{}}, 0, 0)
	o := crane()
	o.Ending = true
	wantCheck(t, s, o, 0, 0)
	o.Values = []string{"1", "", ""}
	wantCheck(t, s, o, 0, 0)
}

func TestCheckNotOk(t *testing.T) {
	s := harbourShapes()
	for i, spoil := range []func(o *impl.GateObject){
		func(o *impl.GateObject) { o.Kind = "" },
		func(o *impl.GateObject) { o.Kind = "cran" },
		func(o *impl.GateObject) { o.Kind = "pier" },
		func(o *impl.GateObject) { o.Values = nil },
		func(o *impl.GateObject) { o.Values = o.Values[:2] },
		func(o *impl.GateObject) { o.Values = append(o.Values, "") },
		func(o *impl.GateObject) { o.Holds = []string{"a", "b", "c", "d"} },
		func(o *impl.GateObject) { o.Holds = []string{"b", "a"} },
		func(o *impl.GateObject) { o.Holds = []string{"a", "a"} },
		func(o *impl.GateObject) { o.Holds = []string{""} },
		func(o *impl.GateObject) { o.Holds = []string{"a", "B"} },
		func(o *impl.GateObject) { o.Version = -1 },
		func(o *impl.GateObject) { o.Version = impl.GateMaxVersion + 1 },
		func(o *impl.GateObject) { o.Version = math.MinInt },
	} {
		o := crane()
		spoil(&o)
		if c, p := impl.GateCheck(s, o); c != 1 || p != 0 {
			t.Errorf("case %d: %d, %d", i, c, p)
		}
	}
	wantCheck(t, nil, crane(), 1, 0)
	spoiled := harbourShapes()
	spoiled[1].Fields[0].Least = -1
	wantCheck(t, spoiled, crane(), 1, 0)
}

func TestCheckLimits(t *testing.T) {
	s := harbourShapes()
	o := crane()
	for _, version := range []int{0, impl.GateMaxVersion} {
		o.Version = version
		wantCheck(t, s, o, 0, 0)
	}
	for _, holds := range [][]string{nil, {}, {"a"}, names(impl.GateMaxHolds), {"a", "aa", long(16)}} {
		o.Holds = holds
		wantCheck(t, s, o, 0, 0)
	}
	for _, n := range goodNames() {
		o.Name, o.Team = n, "dock"
		wantCheck(t, s, o, 0, 0)
		o.Name, o.Team = "c1", n
		wantCheck(t, s, o, 0, 0)
	}
	for _, n := range notNames() {
		o.Name, o.Team = n, "dock"
		wantCheck(t, s, o, 1, 0)
		o.Name, o.Team = "c1", n
		wantCheck(t, s, o, 1, 0)
	}
}

func TestCheckFields(t *testing.T) {
	s := harbourShapes()
	for _, c := range []struct {
		values      []string
		code, place int
	}{
		{[]string{"", "red", "ab"}, 2, 0},
		{[]string{"0", "red", "ab"}, 3, 0},
		{[]string{"91", "red", "ab"}, 3, 0},
		{[]string{"90", "pink", "ab"}, 3, 1},
		{[]string{"90", "red", "a"}, 3, 2},
		{[]string{"90", "red", "abcdef"}, 3, 2},
		{[]string{"90", "red", "abcde"}, 0, 0},
		{[]string{"", "pink", "a"}, 2, 0},
		{[]string{"0", "pink", "a"}, 3, 0},
		{[]string{"9", "pink", "a"}, 3, 1},
	} {
		o := crane()
		o.Values = c.values
		wantCheck(t, s, o, c.code, c.place)
	}
}

func TestCheckFirstFieldNotFirstCode(t *testing.T) {
	s := harbourShapes()
	o := pier()
	o.Values = []string{"501", "", "", ""}
	wantCheck(t, s, o, 3, 0)
	o.Values = []string{"500", "", "Q", ""}
	wantCheck(t, s, o, 2, 1)
	o.Values = []string{"500", "Q", "", ""}
	wantCheck(t, s, o, 3, 1)
	// A field that must be set, and is so by its Default only once it was filled.
	s[0].Fields[1].Must = true
	c := crane()
	c.Values[1] = ""
	wantCheck(t, s, c, 2, 1)
	wantCheck(t, s, impl.GateFill(s, c), 0, 0)
}

func TestCheckCodeOneAheadOfFields(t *testing.T) {
	o := crane()
	o.Values = []string{"", "pink", "a"}
	o.Version = -1
	wantCheck(t, harbourShapes(), o, 1, 0)
	o.Version, o.Holds = 0, []string{"b", "a"}
	wantCheck(t, harbourShapes(), o, 1, 0)
	o.Holds, o.Team = nil, "Dock"
	wantCheck(t, harbourShapes(), o, 1, 0)
}

func wantTurned(t *testing.T, shapes []impl.GateShape, old, o impl.GateObject, code, place int) {
	t.Helper()
	if c, p := impl.GateTurned(shapes, old, o); c != code || p != place {
		t.Errorf("GateTurned of %+v to %+v = %d, %d; not %d, %d", old, o, c, p, code, place)
	}
}

func TestTurnedOrdinary(t *testing.T) {
	s := harbourShapes()
	wantTurned(t, s, crane(), crane(), 0, 0)
	o := crane()
	o.Values = []string{"41", "blue", "old!"}
	o.Ending, o.Holds, o.Version = true, nil, 0
	wantTurned(t, s, crane(), o, 0, 0)
	o.Values[1] = ""
	wantTurned(t, s, crane(), o, 0, 0)
	stone := impl.GateObject{Kind: "stone", Name: "s", Team: "t"}
	wantTurned(t, s, stone, stone, 0, 0)
}

func TestTurnedFixed(t *testing.T) {
	s := harbourShapes()
	for _, c := range []struct {
		old, o      []string
		code, place int
	}{
		{[]string{"1", "c1", "", "p0"}, []string{"2", "c1", "", "p0"}, 4, 0},
		{[]string{"1", "c1", "", "p0"}, []string{"", "c1", "", "p0"}, 4, 0},
		{[]string{"1", "c1", "", "p0"}, []string{"1", "c1", "", "p9"}, 4, 3},
		{[]string{"1", "c1", "", "p0"}, []string{"1", "c1", "", ""}, 4, 3},
		{[]string{"1", "c1", "", "p0"}, []string{"2", "c1", "", "p9"}, 4, 0},
		{[]string{"1", "c1", "", "p0"}, []string{"1", "c2", "p7", "p0"}, 0, 0},
		{[]string{"", "c1", "", ""}, []string{"2", "c1", "", "p9"}, 0, 0},
		{[]string{"", "c1", "", "p0"}, []string{"2", "c1", "", "p9"}, 4, 3},
	} {
		old, o := pier(), pier()
		old.Values, o.Values = c.old, c.o
		wantTurned(t, s, old, o, c.code, c.place)
	}
}

func TestTurnedNotOk(t *testing.T) {
	s := harbourShapes()
	for i, spoil := range []func(o *impl.GateObject){
		func(o *impl.GateObject) { o.Kind = "stone"; o.Values = nil },
		func(o *impl.GateObject) { o.Kind = "none" },
		func(o *impl.GateObject) { o.Name = "p2" },
		func(o *impl.GateObject) { o.Team = "shore" },
		func(o *impl.GateObject) { o.Name = "" },
		func(o *impl.GateObject) { o.Values = o.Values[:3] },
		func(o *impl.GateObject) { o.Values[1] = "" },
		func(o *impl.GateObject) { o.Values[2] = "P" },
		func(o *impl.GateObject) { o.Holds = []string{"b", "a"} },
		func(o *impl.GateObject) { o.Version = -1 },
		// Code 1 is looked for ahead of code 4.
		func(o *impl.GateObject) { o.Values[0] = "7"; o.Values[3] = "P" },
	} {
		o := pier()
		spoil(&o)
		if c, p := impl.GateTurned(s, pier(), o); c != 1 || p != 0 {
			t.Errorf("case %d, new: %d, %d", i, c, p)
		}
		if c, p := impl.GateTurned(s, o, pier()); c != 1 || p != 0 {
			t.Errorf("case %d, old: %d, %d", i, c, p)
		}
	}
	wantTurned(t, nil, pier(), pier(), 1, 0)
	spoiled := harbourShapes()
	spoiled[2].Kind = "a"
	wantTurned(t, spoiled, pier(), pier(), 1, 0)
	twoKinds := []impl.GateShape{{Kind: "a"}, {Kind: "b"}}
	wantTurned(t, twoKinds, impl.GateObject{Kind: "a", Name: "n", Team: "t"}, impl.GateObject{Kind: "b", Name: "n", Team: "t"}, 1, 0)
}
