package tests

import (
	"math"
	"reflect"
	"strings"
	"testing"

	"loop.example/wharfhall/impl"
)

func TestKindsOfEntries(t *testing.T) {
	for name, c := range map[string]struct{ got, want int }{
		"HallSlip": {impl.HallSlip, 1}, "HallDraw": {impl.HallDraw, 2}, "HallBack": {impl.HallBack, 3}, "HallBound": {impl.HallBound, 4},
		"HallTime": {impl.HallTime, 5}, "HallSweep": {impl.HallSweep, 6}, "HallAct": {impl.HallAct, 7}, "HallSea": {impl.HallSea, 8},
	} {
		if c.got != c.want {
			t.Errorf("%s is %d, not %d", name, c.got, c.want)
		}
	}
}

func TestFormsOfEntries(t *testing.T) {
	for _, f := range entryForms() {
		wantForm(t, "one of all", f.entry, f.form)
	}
	wantNoForm(t, "nothing", impl.HallEntry{})
}

// An entry with what belongs to one Kind has no form of another one, unless that one needs just the same.
func TestFormsWithAnotherKind(t *testing.T) {
	same := map[string]string{"time 4": "sweep 4", "sweep 5": "time 5", "back 2 d1 dev copies": "draw 2 d1 dev copies 0"}
	for _, f := range entryForms() {
		also := 0
		for _, kind := range []int{math.MinInt, -1, 0, 1, 2, 3, 4, 5, 6, 7, 8, 9, 10, 100, math.MaxInt} {
			e := withNumber(f.entry, "Kind", kind)
			if has := wantFormOrNot(t, f.form+" as the Kind "+count(kind), e); has && kind != f.entry.Kind {
				wantForm(t, "another Kind", e, same[f.form])
				also++
			}
		}
		if also != 0 && same[f.form] == "" || also != 1 && same[f.form] != "" {
			t.Errorf("%s has a form in %d other Kinds", f.form, also)
		}
	}
	for _, kind := range []int{math.MinInt, -1, 0, 9, 10, math.MaxInt} {
		wantNoForm(t, "the Kind "+count(kind)+" alone", impl.HallEntry{Kind: kind, Number: 1})
	}
}

func TestFormsWithAnotherVerb(t *testing.T) {
	for _, f := range slipForms() {
		for _, verb := range []int{math.MinInt, -1, 0, 1, 2, 3, 4, 5, 6, 7, 8, 100, math.MaxInt} {
			e := withNumber(f.entry, "Slip.Ask.Verb", verb)
			if has := wantFormOrNot(t, f.form+" as the verb "+count(verb), e); has && verb != f.entry.Slip.Ask.Verb {
				t.Errorf("%s as the verb %d has a form", f.form, verb)
			}
		}
	}
	for verb := -1; verb <= 8; verb++ {
		// Just the verb that needs nothing but a number, which may be 0, has a form by itself.
		alone := slipEntry(1, impl.GateAsk{Verb: verb})
		if verb == impl.GateTake {
			wantForm(t, "to take alone", alone, "slip 1 d1 7 * ann take 0")
		} else {
			wantNoForm(t, "the verb "+count(verb)+" alone", alone)
		}
		named := slipEntry(1, impl.GateAsk{Verb: verb, Kind: "service", Name: "web"})
		if verb == impl.GateEnd {
			wantForm(t, "to end alone", named, "slip 1 d1 7 * ann end web 0")
		} else {
			wantNoForm(t, "the verb "+count(verb)+" with a Kind and a Name", named)
		}
	}
}

func TestFormsOfTheSea(t *testing.T) {
	for kind := -1; kind <= 8; kind++ {
		for _, flag := range []bool{false, true} {
			for _, name := range []string{"", "a"} {
				for _, number := range []int{0, 3} {
					e := seaEntry(impl.StewEvent{Kind: kind, Name: name, Number: number, Flag: flag})
					want := ""
					switch {
					case kind == impl.StewTick && !flag && name == "" && number == 0:
						want = "sea 9 tick"
					case kind == impl.StewFails && !flag && name == "a":
						want = "sea 9 fails a " + count(number)
					case kind == impl.StewSink && !flag && name == "a" && number == 0:
						want = "sea 9 sink a"
					case kind == impl.StewRaise && !flag && name == "a" && number == 0:
						want = "sea 9 raise a"
					case kind == impl.StewRaise && flag && name == "a" && number == 0:
						want = "sea 9 drain a"
					case kind == impl.StewLoad && !flag && name == "a":
						want = "sea 9 load a " + count(number)
					}
					if got := impl.HallForm(e); got != want {
						t.Errorf("the form of %+v is %q, not %q", e.Sea, got, want)
					}
				}
			}
		}
	}
	wish := impl.StewEvent{Kind: impl.StewWish, Service: impl.StewService{Name: "web", Image: 1, Over: 1}}
	wantNoForm(t, "a wish", seaEntry(wish))
}

func TestNumbersOfEntries(t *testing.T) {
	for _, f := range entryForms() {
		for _, n := range []int{1, 2, 9, 10, 999999, impl.HallMaxNumber} {
			wantForm(t, "a Number", withNumber(f.entry, "Number", n), withWord(f.form, 1, count(n)))
		}
		for _, n := range []int{math.MinInt, -1, 0, impl.HallMaxNumber + 1, 9999999, 10000000, math.MaxInt} {
			wantNoForm(t, "the Number "+count(n), withNumber(f.entry, "Number", n))
		}
	}
}

// Every number but the entry's own is a decimal, whatever it stands for.
func TestDecimalsOfForms(t *testing.T) {
	for _, f := range entryForms() {
		for _, path := range strings.Fields(f.numbers) {
			for _, n := range []int{0, 1, 9, 10, 1000000, 1000001, 9999999} {
				e := withNumber(f.entry, path, n)
				wantForm(t, path, e, formByHand(e))
			}
			for _, n := range []int{math.MinInt, -1, -9999999, 10000000, math.MaxInt} {
				wantNoForm(t, path+" "+count(n), withNumber(f.entry, path, n))
			}
		}
	}
}

func TestNamesOfForms(t *testing.T) {
	for _, f := range entryForms() {
		for _, path := range strings.Fields(f.names) {
			for _, name := range append(goodNames(), "slip", "make", "tick", "drop", "service", "0", "12") {
				e := withText(f.entry, path, name)
				wantForm(t, path, e, formByHand(e))
			}
			for _, text := range append(notNames(), "*", ",", ":", " ", "a ", " a", "a b", "a,b", "a:0", "a\n", "web 4", "dev *") {
				wantNoForm(t, path+" "+text, withText(f.entry, path, text))
			}
		}
	}
}

func TestEveryByteOfAName(t *testing.T) {
	for c := range 256 {
		name := "a" + string([]byte{byte(c)})
		good := c == '-' || '0' <= c && c <= '9' || 'a' <= c && c <= 'z'
		e := seaEntry(impl.StewEvent{Kind: impl.StewSink, Name: name})
		if good {
			wantForm(t, "a byte", e, "sea 9 sink "+name)
		} else {
			wantNoForm(t, "a byte", e)
			wantUnread(t, "a byte", "sea 9 sink "+name)
		}
	}
}

// What no word stands for must be nothing, part by part.
func TestWhatIsNotWrittenIsNothing(t *testing.T) {
	for _, f := range entryForms() {
		written := "Kind Number " + f.names + " " + f.numbers + " " + f.others
		e := f.entry
		for path, part := range entryParts(&e) {
			if hasPath(written, path) {
				continue
			}
			for _, set := range somethings(part.Type()) {
				turned := copyEntry(f.entry)
				entryParts(&turned)[path].Set(set)
				wantNoForm(t, f.form+" with "+path, turned)
			}
		}
	}
}

// somethings are values of a type that are not nothing.
func somethings(t reflect.Type) []reflect.Value {
	var out []reflect.Value
	switch t.Kind() {
	case reflect.String:
		for _, text := range []string{"x", "service", "*", " ", "d1", "\x00"} {
			out = append(out, reflect.ValueOf(text))
		}
	case reflect.Int:
		for _, n := range []int{1, -1, 7, math.MinInt, math.MaxInt} {
			out = append(out, reflect.ValueOf(n))
		}
	case reflect.Bool:
		out = append(out, reflect.ValueOf(true))
	case reflect.Slice:
		for n := 1; n <= 6; n += 5 {
			out = append(out, reflect.MakeSlice(t, n, n))
		}
		one := reflect.MakeSlice(t, 0, 1)
		out = append(out, reflect.Append(one, sentinel(t.Elem())))
	}
	return out
}

// All parts of an entry are known to the tests: a new one would have to be looked at.
func TestPartsOfAnEntry(t *testing.T) {
	e := impl.HallEntry{}
	parts := entryParts(&e)
	// Six of the entry, two of the slip beside its ask, eleven of the ask and four of its rule, eight of the act, four of the event and thirteen of its service.
	if len(parts) != 6+3+11+4+8+4+13 {
		t.Errorf("%d parts: %v", len(parts), parts)
	}
	for _, f := range entryForms() {
		for _, path := range strings.Fields(f.names + " " + f.numbers + " " + f.others) {
			if !parts[path].IsValid() {
				t.Errorf("%s: there is no %s", f.form, path)
			}
		}
	}
}

// An empty list is as good as none.
func TestFormsWithEmptyLists(t *testing.T) {
	for _, f := range entryForms() {
		e := f.entry
		for path, part := range entryParts(&e) {
			if part.Kind() == reflect.Slice && part.Len() == 0 {
				turned := f.entry
				list := entryParts(&turned)[path]
				list.Set(reflect.MakeSlice(list.Type(), 0, 4))
				wantForm(t, f.form+" with an empty "+path, turned, f.form)
			}
		}
	}
}

func TestKindsOfAsksAndWants(t *testing.T) {
	for _, f := range slipForms() {
		verb := f.entry.Slip.Ask.Verb
		for _, kind := range []string{"", "s", "services", "Service", "service ", "crane", "*", "\x00"} {
			e := withText(f.entry, "Slip.Ask.Kind", kind)
			if kind == "" && verb > impl.GateLetGo {
				wantForm(t, "no Kind", e, f.form)
			} else {
				wantNoForm(t, f.form+" of the Kind "+kind, e)
			}
			for at := range f.entry.Slip.Wants {
				wantNoForm(t, f.form+" with a want of the Kind "+kind, turnedEntry(f.entry, func(e *impl.HallEntry) { e.Slip.Wants[at].Kind = kind }))
			}
		}
		if verb > impl.GateLetGo {
			wantNoForm(t, f.form+" of the Kind service", withText(f.entry, "Slip.Ask.Kind", "service"))
		}
	}
}
