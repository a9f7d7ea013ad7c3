package tests

import (
	"slices"
	"strconv"
	"testing"

	"loop.example/wharfhall/impl"
)

const mendCases = 600

// diceShapes gives one shape of up to six fields that fit much alike, so that
// values and mends meet often; one field in six is a link.
func diceShapes(d *dice) []impl.GateShape {
	s := impl.GateShape{Kind: "boat"}
	for i := range 2 + d.below(impl.GateMaxFields-1) {
		f := impl.GateField{Name: "f" + strconv.Itoa(i)}
		switch d.below(6) {
		case 0, 1:
			f.Kind, f.Least, f.Most = impl.GateNumber, 1, 3
		case 2, 3:
			f.Kind, f.Words = impl.GateWord, []string{"1", "2", "3"}
		case 4:
			f.Kind, f.Least, f.Most = impl.GateText, 1, 2
		default:
			f.Kind, f.To, f.Role = impl.GateLink, "boat", impl.GateHolds
		}
		if f.Kind != impl.GateLink {
			f.Default = oneOf(d, "", "", "1", "2")
		}
		s.Fields = append(s.Fields, f)
	}
	return []impl.GateShape{s}
}

// diceMends gives mends of which many lists are ok: mostly a field reads those of smaller rank.
func diceMends(d *dice, s impl.GateShape) []impl.GateMend {
	rank := oneOf(d, orders(len(s.Fields))...)
	name := func(i int) string { return s.Fields[i].Name }
	var mends []impl.GateMend
	for range d.below(8) {
		a, b, c := d.below(len(rank)), d.below(len(rank)), d.below(len(rank))
		wild := d.below(12) == 0
		if !wild && s.Fields[a].Kind == impl.GateLink {
			continue
		}
		m := impl.GateMend{Kind: "boat", Field: name(a)}
		if wild || rank[b] < rank[a] && s.Fields[b].Kind != impl.GateLink {
			m.When, m.Is = name(b), oneOf(d, "", "1", "2", "3")
		}
		m.Put = oneOf(d, "1", "2", "3")
		if d.below(2) == 0 && (wild || rank[c] < rank[a] && s.Fields[c].Kind != impl.GateLink) {
			m.From, m.Put = name(c), ""
		}
		mends = append(mends, m)
	}
	return mends
}

func diceObject(d *dice, s impl.GateShape) impl.GateObject {
	o := impl.GateObject{Kind: s.Kind, Name: "n", Team: "t"}
	for range s.Fields {
		o.Values = append(o.Values, oneOf(d, "", "", "1", "2", "3", "odd"))
	}
	return o
}

// eachDiceCase tells of each case also all rows that its mends can be done in.
func eachDiceCase(visit func(shapes []impl.GateShape, mends []impl.GateMend, o impl.GateObject, rows [][]int)) {
	d := &dice{state: 5}
	for range mendCases {
		shapes := diceShapes(d)
		mends := diceMends(d, shapes[0])
		visit(shapes, mends, diceObject(d, shapes[0]), rowsOf(shapes[0], mends))
	}
}

func fieldPlace(s impl.GateShape, name string) int {
	return slices.IndexFunc(s.Fields, func(f impl.GateField) bool { return f.Name == name })
}

// rowsOf tries all orders of the fields.
func rowsOf(s impl.GateShape, mends []impl.GateMend) [][]int {
	return slices.DeleteFunc(orders(len(s.Fields)), func(row []int) bool {
		return slices.ContainsFunc(mends, func(m impl.GateMend) bool {
			field := slices.Index(row, fieldPlace(s, m.Field))
			return m.When != "" && slices.Index(row, fieldPlace(s, m.When)) >= field ||
				m.From != "" && slices.Index(row, fieldPlace(s, m.From)) >= field
		})
	})
}

// plainly says whether a mend is ok but for rows.
func plainly(s impl.GateShape, m impl.GateMend) bool {
	for _, name := range []string{m.Field, m.When, m.From} {
		if name != "" && s.Fields[fieldPlace(s, name)].Kind == impl.GateLink {
			return false
		}
	}
	return m.Field != m.When && m.Field != m.From && (m.Put == "" || impl.GateFits(s.Fields[fieldPlace(s, m.Field)], m.Put))
}

// byHand is what the first mend of a field that applies gives it, or what it has.
func byHand(s impl.GateShape, mends []impl.GateMend, values []string, place int) string {
	for _, m := range mends {
		if m.Field != s.Fields[place].Name || m.When != "" && values[fieldPlace(s, m.When)] != m.Is {
			continue
		}
		if m.From == "" {
			return m.Put
		}
		if value := values[fieldPlace(s, m.From)]; value != "" {
			return value
		}
	}
	return values[place]
}

func TestMendsOkIfThereIsARow(t *testing.T) {
	ok, circles := 0, 0
	eachDiceCase(func(shapes []impl.GateShape, mends []impl.GateMend, o impl.GateObject, rows [][]int) {
		fine := !slices.ContainsFunc(mends, func(m impl.GateMend) bool { return !plainly(shapes[0], m) })
		wantMends(t, shapes, mends, fine && len(rows) > 0)
		if fine && len(rows) > 0 {
			ok++
		} else if fine {
			circles++
		}
	})
	if ok < 100 || circles < 5 {
		t.Errorf("the cases are poor: %d ok, %d circles", ok, circles)
	}
}

func TestMendedIsTheSameInEachRow(t *testing.T) {
	changed := 0
	eachDiceCase(func(shapes []impl.GateShape, mends []impl.GateMend, o impl.GateObject, rows [][]int) {
		if !impl.GateMendsOk(shapes, mends) {
			wantMended(t, shapes, mends, o, o.Values...)
			wantShaped(t, shapes, mends, o, o.Values...)
			return
		}
		got := impl.GateMended(shapes, mends, o)
		for _, row := range rows {
			values := slices.Clone(o.Values)
			for _, place := range row {
				values[place] = byHand(shapes[0], mends, values, place)
			}
			if !slices.Equal(got.Values, values) {
				t.Fatalf("by %+v of %q: %q, but in the row %v %q", mends, o.Values, got.Values, row, values)
			}
		}
		if !slices.Equal(got.Values, o.Values) {
			changed++
		}
	})
	if changed < 100 {
		t.Errorf("the cases are poor: %d changed", changed)
	}
}

func TestMendedHoldsByTheLastValues(t *testing.T) {
	eachDiceCase(func(shapes []impl.GateShape, mends []impl.GateMend, o impl.GateObject, rows [][]int) {
		if !impl.GateMendsOk(shapes, mends) {
			return
		}
		got := impl.GateMended(shapes, mends, o).Values
		for place, f := range shapes[0].Fields {
			if want := byHand(shapes[0], mends, got, place); got[place] != want {
				t.Fatalf("by %+v of %q: %q, in which %s should be %q", mends, o.Values, got, f.Name, want)
			}
			mended := slices.ContainsFunc(mends, func(m impl.GateMend) bool { return m.Field == f.Name })
			if !mended && got[place] != o.Values[place] {
				t.Fatalf("by %+v of %q: %q, in which no mend turns %s", mends, o.Values, got, f.Name)
			}
		}
	})
}

// The fields of a shape in another order, their values with them, are mended alike.
func TestMendedWhateverTheOrderOfFields(t *testing.T) {
	d := &dice{state: 9}
	eachDiceCase(func(shapes []impl.GateShape, mends []impl.GateMend, o impl.GateObject, rows [][]int) {
		order := oneOf(d, orders(len(o.Values))...)
		turned := []impl.GateShape{{Kind: "boat", Fields: inOrder(shapes[0].Fields, order)}}
		other := o
		other.Values = inOrder(o.Values, order)
		wantMends(t, turned, mends, impl.GateMendsOk(shapes, mends))
		wantMended(t, turned, mends, other, inOrder(impl.GateMended(shapes, mends, o).Values, order)...)
		wantShaped(t, turned, mends, other, inOrder(impl.GateShaped(shapes, mends, o).Values, order)...)
	})
}

func TestShapedIsShapedOnce(t *testing.T) {
	eachDiceCase(func(shapes []impl.GateShape, mends []impl.GateMend, o impl.GateObject, rows [][]int) {
		once := impl.GateShaped(shapes, mends, o)
		wantShaped(t, shapes, mends, once, once.Values...)
		wantMended(t, shapes, mends, once, once.Values...)
		if impl.GateMendsOk(shapes, mends) {
			wantFill(t, shapes, once, once.Values...)
			wantMended(t, shapes, mends, impl.GateFill(shapes, o), once.Values...)
		}
	})
}
