package tests

import (
	"reflect"
	"strings"
	"testing"

	"loop.example/wharfhall/impl"
)

func wantService(t *testing.T, what string, o impl.GateObject, old, want impl.StewService) {
	t.Helper()
	if worded := serviceByHand(o, old); worded != want {
		t.Errorf("%s: by the document's words it is %+v, not %+v", what, worded, want)
	}
	if got := impl.HallService(o, old); got != want {
		t.Errorf("%s: HallService of %+v and %+v = %+v, not %+v", what, o, old, got, want)
	}
}

// wildService has no part that a service would get by itself.
func wildService() impl.StewService {
	return impl.StewService{Name: "other", Version: 71, Gone: true, Image: 72, Want: 9, Down: 73, Over: 74, Next: 75, Per: 76, Least: 77, Most: 78, Load: 17, Cool: 79}
}

func TestServicesOfObjectsWithoutAPer(t *testing.T) {
	for told, want := range map[string]impl.StewService{
		"3,4,1,2,,":             {Name: "web", Image: 3, Want: 4, Down: 1, Over: 2},
		"3,4,1,2,,db":           {Name: "web", Image: 3, Want: 4, Down: 1, Over: 2},
		"3,4,1,2,0,":            {Name: "web", Image: 3, Want: 4, Down: 1, Over: 2},
		"3,4,1,2,x,":            {Name: "web", Image: 3, Want: 4, Down: 1, Over: 2},
		"3,4,1,2,05,":           {Name: "web", Image: 3, Want: 4, Down: 1, Over: 2},
		"3,4,1,2,10000000,":     {Name: "web", Image: 3, Want: 4, Down: 1, Over: 2},
		"1000,10,10,10,,":       {Name: "web", Image: 1000, Want: 10, Down: 10, Over: 10},
		",,,,,":                 {Name: "web"},
		"0,0,0,0,0,0":           {Name: "web"},
		"a,b,c,d,e,f":           {Name: "web"},
		"01,-1, 1,1 ,+1,":       {Name: "web"},
		"9999999,9999999,,,,":   {Name: "web", Image: 9999999, Want: 9999999},
		"10000000,10000000,,,,": {Name: "web"},
	} {
		for _, old := range []impl.StewService{{}, wildService()} {
			wantService(t, told, impl.GateObject{Name: "web", Values: strings.Split(told, ",")}, old, want)
		}
	}
}

func TestServicesOfObjectsWithAPer(t *testing.T) {
	for _, c := range []struct {
		told      string
		old, want impl.StewService
	}{
		{"3,4,1,2,5,", impl.StewService{}, impl.StewService{Per: 5, Most: 4}},
		{"3,4,1,2,5,", impl.StewService{Want: 3, Load: 17}, impl.StewService{Per: 5, Most: 4, Want: 3, Load: 17}},
		{"3,4,1,2,5,", impl.StewService{Want: 4, Load: 17}, impl.StewService{Per: 5, Most: 4, Want: 4, Load: 17}},
		{"3,4,1,2,5,", impl.StewService{Want: 5, Load: 17}, impl.StewService{Per: 5, Most: 4, Want: 4, Load: 17}},
		{"3,4,1,2,5,", wildService(), impl.StewService{Per: 5, Most: 4, Want: 4, Load: 17}},
		{"3,0,1,2,5,", wildService(), impl.StewService{Per: 5, Load: 17}},
		{"3,,1,2,5,", wildService(), impl.StewService{Per: 5, Load: 17}},
		{"3,x,1,2,1,", wildService(), impl.StewService{Per: 1, Load: 17}},
		{"3,10,1,2,1000000,", impl.StewService{Want: 10, Load: 1000000}, impl.StewService{Per: 1000000, Most: 10, Want: 10, Load: 1000000}},
		{"3,4,1,2,9999999,", impl.StewService{Want: -5, Load: -6}, impl.StewService{Per: 9999999, Most: 4, Want: -5, Load: -6}},
	} {
		c.want.Name, c.want.Image, c.want.Down, c.want.Over = "web", 3, 1, 2
		wantService(t, c.told, impl.GateObject{Name: "web", Values: strings.Split(c.told, ",")}, c.old, c.want)
	}
}

// Of an object that has not six Values nothing is told, whatever else it and old have.
func TestHowManyValuesAService(t *testing.T) {
	for n := range 20 {
		values := strings.Split("3,4,1,2,5,"+strings.Repeat(",6", 14), ",")[:n]
		o := ending(held(madeService("web", "dock", ",,,,,", 7), "fleet"))
		o.Values = values
		want := impl.StewService{}
		if n == 6 {
			want = impl.StewService{Name: "web", Gone: true, Image: 3, Want: 4, Down: 1, Over: 2, Per: 5, Most: 4, Load: 17}
		}
		wantService(t, count(n), o, wildService(), want)
	}
	wantService(t, "nothing", impl.GateObject{}, impl.StewService{}, impl.StewService{})
	wantService(t, "an empty list", impl.GateObject{Name: "web", Values: []string{}}, wildService(), impl.StewService{})
}

func TestAServiceIsGoneWhileItsObjectIsEnding(t *testing.T) {
	for _, told := range []string{"3,4,1,2,,", "3,4,1,2,5,"} {
		o := impl.GateObject{Name: "web", Values: strings.Split(told, ",")}
		alive, gone := impl.HallService(o, wildService()), impl.HallService(ending(o), impl.StewService{Want: 9, Load: 17})
		if alive.Gone || !gone.Gone {
			t.Errorf("%s: %+v, and Ending %+v", told, alive, gone)
		}
		gone.Gone = false
		if gone != alive {
			t.Errorf("%s: %+v, and Ending %+v", told, alive, gone)
		}
	}
}

// The Name is taken as it is.
func TestNamesOfServices(t *testing.T) {
	for _, name := range append(notNames(), goodNames()...) {
		wantService(t, name, impl.GateObject{Name: name, Values: make([]string, 6)}, wildService(), impl.StewService{Name: name})
	}
}

// Nothing of an object is looked at but its Name, Values and Ending, and nothing of old but its Want and Load.
func TestWhatAServiceDoesNotLookAt(t *testing.T) {
	for _, told := range []string{"3,4,1,2,,", "3,4,1,2,5,", "3,4,1,2,5,db"} {
		plain := impl.GateObject{Name: "web", Values: strings.Split(told, ",")}
		old := impl.StewService{Want: 3, Load: 17}
		want := impl.HallService(plain, old)
		for _, o := range []impl.GateObject{
			{Kind: "crane", Team: "no team", Holds: []string{"fleet", "A"}, Version: -1},
			{Kind: "", Team: "dock", Holds: names(9), Version: 1 << 62},
		} {
			o.Name, o.Values = plain.Name, plain.Values
			wantService(t, told, o, old, want)
		}
		for i := range 6 {
			of := plain
			of.Values = append(strings.Split(told, ",")[:5:5], oneOf(&dice{state: uint64(i)}, "", "db", "web", "7", "A", "5"))
			wantService(t, told, of, old, want)
		}
		turned := reflect.ValueOf(&old).Elem()
		for i := range turned.NumField() {
			name := turned.Type().Field(i).Name
			if name == "Want" || name == "Load" {
				continue
			}
			was := old
			reflect.ValueOf(&was).Elem().Field(i).Set(sentinel(turned.Field(i).Type()))
			wantService(t, told+" with another "+name, plain, was, want)
		}
	}
}

func TestDrawnServices(t *testing.T) {
	d := &dice{state: 3100}
	for range 20000 {
		o := impl.GateObject{Kind: "service", Name: diceName(d), Team: diceName(d), Ending: d.below(2) == 0, Version: d.below(90)}
		for range oneOf(d, 6, 6, 6, 6, 6, 5, 7, 0) {
			o.Values = append(o.Values, oneOf(d, "", "0", "01", "x", "-1", count(d.below(12)), count(d.below(12)), count(diceDecimal(d)), "10000000"))
		}
		old := diceService(d, "web", 50)
		if got, want := impl.HallService(o, old), serviceByHand(o, old); got != want {
			t.Fatalf("HallService of %+v and %+v = %+v, not %+v", o, old, got, want)
		}
	}
}
