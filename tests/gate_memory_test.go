package tests

import (
	"reflect"
	"slices"
	"testing"

	"loop.example/wharfhall/impl"
)

// roomy gives a list with sentinels in the room behind its end, and all of its memory.
func roomy(list ...string) (short []string, all []string) {
	all = append(slices.Clone(list), "behind-1", "behind-2", "behind-3")
	return all[:len(list)], all
}

// roomyShapes gives shapes whose lists all have sentinels behind their ends, and the memory of all shapes.
func roomyShapes() (short []impl.GateShape, all []impl.GateShape) {
	all = append(harbourShapes(), impl.GateShape{Kind: "behind"})
	for i, s := range all {
		for j, f := range s.Fields {
			s.Fields[j].Words, _ = roomy(f.Words...)
		}
		n := len(s.Fields)
		all[i].Fields = append(s.Fields, impl.GateField{Name: "behind"})[:n]
	}
	return all[:len(all)-1], all
}

// whole opens all lists of shapes to the end of their memory.
func whole(all []impl.GateShape) []impl.GateShape {
	out := slices.Clone(all)
	for i, s := range out {
		out[i].Fields = slices.Clone(s.Fields[:len(s.Fields)+1])
		for j, f := range out[i].Fields {
			out[i].Fields[j].Words = slices.Clone(f.Words[:cap(f.Words)])
		}
	}
	return out
}

// scribble writes into every place of a list, its spare room included.
func scribble(list []string) {
	list = list[:cap(list)]
	for i := range list {
		list[i] = "scribble"
	}
}

// objectCases are objects that are filled, and such as are given as they are.
func objectCases() []impl.GateObject {
	empty := crane()
	empty.Values = []string{"", "", ""}
	unknown := crane()
	unknown.Kind = "none"
	few := crane()
	few.Values = []string{""}
	return []impl.GateObject{crane(), empty, unknown, few, {Kind: "stone"}}
}

func TestNoArgumentIsWrittenInto(t *testing.T) {
	for i, o := range objectCases() {
		values, allValues := roomy(o.Values...)
		holds, allHolds := roomy(o.Holds...)
		o.Values, o.Holds = values, holds
		wantValues, wantHolds := slices.Clone(allValues), slices.Clone(allHolds)
		shapes, allShapes := roomyShapes()
		shapesBefore := whole(allShapes)
		impl.GateFits(shapes[0].Fields[1], "red")
		impl.GateShapesOk(shapes)
		impl.GateFill(shapes, o)
		impl.GateCheck(shapes, o)
		impl.GateTurned(shapes, o, o)
		if !slices.Equal(allValues, wantValues) || !slices.Equal(allHolds, wantHolds) {
			t.Errorf("case %d: the object is now %q, %q", i, allValues, allHolds)
		}
		if got := whole(allShapes); !reflect.DeepEqual(got, shapesBefore) {
			t.Errorf("case %d: the shapes are now %+v", i, got)
		}
	}
}

func TestFillSharesNoMemory(t *testing.T) {
	for i, o := range objectCases() {
		values, allValues := roomy(o.Values...)
		holds, allHolds := roomy(o.Holds...)
		o.Values, o.Holds = values, holds
		wantValues, wantHolds := slices.Clone(allValues), slices.Clone(allHolds)
		got := impl.GateFill(harbourShapes(), o)
		scribble(got.Values)
		scribble(got.Holds)
		if !slices.Equal(allValues, wantValues) || !slices.Equal(allHolds, wantHolds) {
			t.Errorf("case %d: the argument is now %q, %q", i, allValues, allHolds)
		}
	}
}

func TestFillListsShareNoMemory(t *testing.T) {
	for _, kind := range []string{"crane", "none"} {
		row := []string{"1", "2", "3"}
		o := impl.GateObject{Kind: kind, Values: row, Holds: row}
		got := impl.GateFill(harbourShapes(), o)
		scribble(got.Values)
		if !slices.Equal(got.Holds, row) || !slices.Equal(row, []string{"1", "2", "3"}) {
			t.Errorf("%s: Values and Holds share memory: %+v", kind, got)
		}
	}
}

// A default is read, not shared, and the same call gives the same answer again.
func TestCallsKeepNothing(t *testing.T) {
	shapes := harbourShapes()
	o := crane()
	o.Values[1] = ""
	first := impl.GateFill(shapes, o)
	scribble(first.Values)
	if second := impl.GateFill(shapes, o); second.Values[1] != "green" {
		t.Errorf("%+v", second)
	}
	impl.GateShapesOk([]impl.GateShape{{}})
	if !impl.GateShapesOk(shapes) {
		t.Error("shapes that were ok are not ok any more")
	}
}
