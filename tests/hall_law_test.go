package tests

import (
	"strings"
	"testing"

	"loop.example/wharfhall/impl"
)

// serviceShape is what the document's table says, in numbers.
func serviceShape() impl.GateShape {
	return impl.GateShape{Kind: "service", Fields: []impl.GateField{
		{Name: "image", Kind: 1, Least: 1, Most: 1000, Must: true},
		{Name: "most", Kind: 1, Least: 0, Most: 10, Must: true, Weighs: "copies"},
		{Name: "down", Kind: 1, Least: 0, Most: 10, Default: "0"},
		{Name: "over", Kind: 1, Least: 1, Most: 10, Default: "1", Weighs: "copies"},
		{Name: "per", Kind: 1, Least: 1, Most: 1000000},
		{Name: "of", Kind: 4, To: "service", Role: 3},
	}}
}

func serviceMend() impl.GateMend {
	return impl.GateMend{Kind: "service", Field: "down", When: "most", Is: "1", Put: "0"}
}

func wantHallLaw(t *testing.T, what string, h impl.HallHouse) {
	t.Helper()
	want := impl.GateLaw{Shapes: []impl.GateShape{serviceShape()}, Mends: []impl.GateMend{serviceMend()}, Teams: h.Teams}
	if got := impl.HallLaw(h); !sameWhole(got, want) {
		t.Errorf("%s: %+v,\nnot %+v", what, got, want)
	}
}

func TestTheLawOfAnyHouse(t *testing.T) {
	for what, h := range okHouses() {
		wantHallLaw(t, what, h)
		if !impl.GateLawOk(impl.HallLaw(h)) {
			t.Errorf("%s: the law is not ok: %+v", what, impl.HallLaw(h))
		}
	}
	for what, h := range wrongHouses() {
		wantHallLaw(t, what, h)
	}
	wantHallLaw(t, "many teams", impl.HallHouse{Teams: manyTeams(500)})
	wantHallLaw(t, "teams of nothing", impl.HallHouse{Teams: make([]impl.GateTeam, 3)})
}

// Where a house's teams are not ok its law is not ok either; its grants are not of the law.
func TestTheLawIsOkIfTheTeamsAre(t *testing.T) {
	for what, h := range wrongHouses() {
		if got := impl.GateLawOk(impl.HallLaw(h)); got != !strings.HasPrefix(what, "teams") {
			t.Errorf("%s: GateLawOk = %v", what, got)
		}
	}
}

// service is an object of the law of yardHouse; fields that are not told are not set.
func service(name string, values ...string) impl.GateObject {
	o := impl.GateObject{Kind: "service", Name: name, Team: "dock", Values: make([]string, 6)}
	copy(o.Values, values)
	return o
}

func TestRangesOfAServicesFields(t *testing.T) {
	fields := impl.HallLaw(yardHouse()).Shapes[0].Fields
	for at, told := range []struct{ good, bad string }{
		{"1 2 999 1000", "0 1001 9999 01 -1 x"},
		{"0 1 9 10", "11 100 00 -1 x"},
		{"0 1 9 10", "11 100 00 -1 x"},
		{"1 2 9 10", "0 11 100 01 -1 x"},
		{"1 2 999999 1000000", "0 1000001 9999999 10000000 01 x"},
		{"web 0 - 1 x " + long(16), "A a_b a,b * " + long(17)},
	} {
		for _, value := range strings.Fields(told.good) {
			if !impl.GateFits(fields[at], value) {
				t.Errorf("%s: %q does not fit", fields[at].Name, value)
			}
		}
		for _, value := range append(strings.Fields(told.bad), "") {
			if impl.GateFits(fields[at], value) {
				t.Errorf("%s: %q fits", fields[at].Name, value)
			}
		}
	}
}

// Of each field alone: whether a service may be without it, and what it is then.
func TestWhatAServiceMustSay(t *testing.T) {
	l := impl.HallLaw(yardHouse())
	full := []string{"7", "4", "3", "2", "50", "db"}
	for at, want := range []struct {
		code  int
		value string
	}{{2, ""}, {2, ""}, {0, "0"}, {0, "1"}, {0, ""}, {0, ""}} {
		o := service("web", full...)
		o.Values[at] = ""
		got := impl.GateShaped(l.Shapes, l.Mends, o)
		code, place := impl.GateCheck(l.Shapes, got)
		if got.Values[at] != want.value || code != want.code || code != 0 && place != at {
			t.Errorf("without %s: %q, code %d at %d", l.Shapes[0].Fields[at].Name, got.Values, code, place)
		}
	}
	if code, _ := impl.GateCheck(l.Shapes, service("web", full...)); code != 0 {
		t.Errorf("a full service: code %d", code)
	}
}

func TestTheMendOfAService(t *testing.T) {
	l := impl.HallLaw(yardHouse())
	for told, want := range map[string]string{
		"1,1,5,1,,":   "1,1,0,1,,",
		"1,1,,1,,":    "1,1,0,1,,",
		"1,2,5,1,,":   "1,2,5,1,,",
		"1,0,5,1,,":   "1,0,5,1,,",
		"1,10,5,1,,":  "1,10,5,1,,",
		"1,1,0,,9,db": "1,1,0,1,9,db",
		"1,,5,1,,":    "1,,5,1,,",
	} {
		got := impl.GateShaped(l.Shapes, l.Mends, service("web", strings.Split(told, ",")...))
		if strings.Join(got.Values, ",") != want {
			t.Errorf("%s is shaped to %q, not %s", told, got.Values, want)
		}
	}
}

func TestWhatAServiceWeighs(t *testing.T) {
	l := impl.HallLaw(yardHouse())
	for _, c := range []struct {
		values, resource string
		want             int
	}{
		{"9,4,3,2,50,db", "copies", 6},
		{"9,10,0,10,,", "copies", 20},
		{"9,0,0,1,,", "copies", 1},
		{"9,4,3,2,50,db", "service", 1},
		{"9,4,3,2,50,db", "image", 0},
		{"9,4,3,2,50,db", "most", 0},
		{"9,4,3,2,50,db", "", 0},
	} {
		if got := impl.GateWeighs(l, service("web", strings.Split(c.values, ",")...), c.resource); got != c.want {
			t.Errorf("%s is %d of %q, not %d", c.values, got, c.resource, c.want)
		}
	}
}

// A service that is of another one is owned by it: it is marked when that one ends, but does not hold it or lean on it.
func TestAServiceOfAnother(t *testing.T) {
	l := impl.HallLaw(yardHouse())
	db, web := service("db", "1", "2", "0", "1"), service("web", "1", "2", "0", "1", "", "db")
	db.Version, db.Ending, web.Version = 1, true, 2
	b := impl.GateBook{Now: 2, Objects: []impl.GateObject{db, web}}
	wantBook(t, "one of another", l, b, true)
	wantPlaces(t, "owned", b, impl.GateMark(l, b), "service web")
	wantPlaces(t, "the owner waits", b, impl.GateGoing(l, b), "")
	swept, code := impl.GateSweep(l, b)
	if code != 0 || len(swept.Objects) != 0 {
		t.Errorf("swept to %+v with %d", swept, code)
	}
}

// A field that may be changed is not Fixed: none is.
func TestEveryFieldOfAServiceMayTurn(t *testing.T) {
	l := impl.HallLaw(yardHouse())
	old := service("web", "7", "4", "3", "2", "50", "db")
	for at, value := range []string{"8", "5", "4", "3", "51", "dc"} {
		o := service("web", old.Values...)
		o.Values[at] = value
		if code, place := impl.GateTurned(l.Shapes, old, o); code != 0 {
			t.Errorf("%q to %q: code %d at %d", old.Values, o.Values, code, place)
		}
	}
}
