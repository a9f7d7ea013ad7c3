package tests

import (
	"math"
	"slices"
	"strings"
	"testing"

	"loop.example/wharfhall/impl"
)

// formOf is one of the forms that the tests know, by its beginning.
func formOf(t *testing.T, beginning string) entryForm {
	t.Helper()
	all := entryForms()
	at := slices.IndexFunc(all, func(f entryForm) bool { return strings.HasPrefix(f.form, beginning) })
	if at < 0 {
		t.Fatalf("there is no form %s..", beginning)
	}
	return all[at]
}

func TestHoldsOfForms(t *testing.T) {
	f := formOf(t, "slip 1 ")
	for word, holds := range map[string][]string{
		"*": nil, "a": {"a"}, "a,b": {"a", "b"}, "b,a": {"b", "a"}, "a,a,a,a,a": {"a", "a", "a", "a", "a"}, "fleet,-,0": {"fleet", "-", "0"}, long(16): {long(16)},
	} {
		e := turnedEntry(f.entry, func(e *impl.HallEntry) { e.Slip.Ask.Holds = holds })
		wantForm(t, "holds", e, withWord(f.form, 9, word))
	}
	for _, text := range append(notNames(), "*", ",", "a,b", "a b") {
		for _, holds := range [][]string{{text}, {"a", text}, {text, "a"}, {"a", text, "b"}} {
			wantNoForm(t, "the hold "+text, turnedEntry(f.entry, func(e *impl.HallEntry) { e.Slip.Ask.Holds = holds }))
		}
	}
}

func TestWantsOfForms(t *testing.T) {
	for _, f := range slipForms() {
		for word, wants := range map[string][]impl.GateWant{
			"*": nil, "a:0": {serviceWant("a", 0)}, "a:0,a:0": {serviceWant("a", 0), serviceWant("a", 0)},
			"b:9999999,a:1": {serviceWant("b", 9999999), serviceWant("a", 1)}, long(16) + ":10": {serviceWant(long(16), 10)},
			// How many a slip may have is not asked for a form.
			"a:1,a:1,a:1,a:1,a:1,a:1,a:1,a:1,a:1,a:1": slices.Repeat([]impl.GateWant{serviceWant("a", 1)}, 10),
		} {
			e := turnedEntry(f.entry, func(e *impl.HallEntry) { e.Slip.Wants = wants })
			wantForm(t, "wants", e, withWord(f.form, 4, word))
		}
		for _, text := range append(notNames(), "*", "a:0", "a,b", ":", ",") {
			for _, wants := range [][]impl.GateWant{{serviceWant(text, 1)}, {serviceWant("a", 1), serviceWant(text, 1)}, {serviceWant(text, 1), serviceWant("a", 1)}} {
				wantNoForm(t, "a want of "+text, turnedEntry(f.entry, func(e *impl.HallEntry) { e.Slip.Wants = wants }))
			}
		}
		for _, n := range []int{math.MinInt, -1, 10000000, math.MaxInt} {
			for _, wants := range [][]impl.GateWant{{serviceWant("a", n)}, {serviceWant("a", 1), serviceWant("b", n)}} {
				wantNoForm(t, "a want of the version "+count(n), turnedEntry(f.entry, func(e *impl.HallEntry) { e.Slip.Wants = wants }))
			}
		}
	}
}

func TestEndsOfForms(t *testing.T) {
	f := formOf(t, "act 6 web 5 2")
	for word, ends := range map[string][]impl.StewEnd{
		"*": nil, "0:0": {{}}, "1:4,2:5": {{Number: 1, Seen: 4}, {Number: 2, Seen: 5}}, "2:5,1:4": {{Number: 2, Seen: 5}, {Number: 1, Seen: 4}},
		"9999999:9999999,9999999:0": {{Number: 9999999, Seen: 9999999}, {Number: 9999999}}, "3:3,3:3,3:3": slices.Repeat([]impl.StewEnd{{Number: 3, Seen: 3}}, 3),
	} {
		e := turnedEntry(f.entry, func(e *impl.HallEntry) { e.Act.Ends = ends })
		wantForm(t, "ends", e, withWord(f.form, 6, word))
	}
	for _, n := range []int{math.MinInt, -1, 10000000, math.MaxInt} {
		for _, end := range []impl.StewEnd{{Number: n}, {Seen: n}, {Number: n, Seen: n}} {
			for _, ends := range [][]impl.StewEnd{{end}, {{Number: 1, Seen: 1}, end}, {end, {Number: 1, Seen: 1}}} {
				wantNoForm(t, "an end with "+count(n), turnedEntry(f.entry, func(e *impl.HallEntry) { e.Act.Ends = ends }))
			}
		}
	}
}

// formsWithValues are the two asks that tell values, with the places of their words.
func formsWithValues(t *testing.T) map[int]entryForm {
	return map[int]entryForm{10: formOf(t, "slip 1 "), 9: formOf(t, "slip 3 ")}
}

func TestHowManyValuesOfForms(t *testing.T) {
	for at, f := range formsWithValues(t) {
		for n := range 14 {
			for _, value := range []string{"", "a", "7"} {
				values := slices.Repeat([]string{value}, n)
				e := turnedEntry(f.entry, func(e *impl.HallEntry) { e.Slip.Ask.Values = values })
				if n == 6 {
					wantForm(t, "values", e, withWord(f.form, at, strings.Join(values, ",")))
				} else {
					wantNoForm(t, count(n)+" values", e)
					wantUnread(t, count(n)+" values", withWord(f.form, at, strings.Join(values, ",")))
				}
			}
		}
		wantUnread(t, "no values", withWord(f.form, at, "*"))
		// Five of them, or four, whose commas make six.
		for _, values := range [][]string{{"a,b", "", "", "", ""}, {",", "", "", "", ""}, {",", ",", "", ""}, {",,,,,"}, {"1,2,,1,,"}} {
			wantNoForm(t, "a value with a comma", turnedEntry(f.entry, func(e *impl.HallEntry) { e.Slip.Ask.Values = values }))
		}
	}
}

func TestEachValueOfForms(t *testing.T) {
	for at, f := range formsWithValues(t) {
		for place := range 6 {
			// All digits make a name, be they a decimal or not.
			for _, value := range append(goodNames(), "", "0", "7", "9999999", "10000000", "007", "1000") {
				e := turnedEntry(f.entry, func(e *impl.HallEntry) { e.Slip.Ask.Values[place] = value })
				wantForm(t, "a value", e, withWord(f.form, at, strings.Join(e.Slip.Ask.Values, ",")))
			}
			for _, value := range append(notNames(), "*", "1:2", "-1.", "+1", "a,b") {
				if value != "" {
					wantNoForm(t, "the value "+value, turnedEntry(f.entry, func(e *impl.HallEntry) { e.Slip.Ask.Values[place] = value }))
				}
			}
		}
	}
}

func TestVerbsOfForms(t *testing.T) {
	f := formOf(t, "slip 6 ")
	for word, list := range map[string][]int{
		"0": {0}, "9": {9}, "6": {6}, "12345": allVerbs(), "54321": {5, 4, 3, 2, 1}, "11": {1, 1}, "10": {1, 0}, "01": {0, 1}, "0123456789": {0, 1, 2, 3, 4, 5, 6, 7, 8, 9},
	} {
		e := turnedEntry(f.entry, func(e *impl.HallEntry) { e.Slip.Ask.Rule.Verbs = list })
		wantForm(t, "verbs", e, withWord(f.form, 8, word))
	}
	for _, list := range [][]int{nil, {}, {10}, {-1}, {1, 10}, {10, 1}, {12, 3}, {100}, {-1, 2}, {math.MinInt}, {math.MaxInt}} {
		wantNoForm(t, "verbs", turnedEntry(f.entry, func(e *impl.HallEntry) { e.Slip.Ask.Rule.Verbs = list }))
	}
}

func TestOptionsOfForms(t *testing.T) {
	f := formOf(t, "slip 6 ")
	for i, path := range []string{"Slip.Ask.Rule.Kind", "Slip.Ask.Rule.Team", "Slip.Ask.Rule.Prefix"} {
		wantForm(t, "no "+path, withText(f.entry, path, ""), withWord(f.form, 9+i, "*"))
		for _, name := range goodNames() {
			wantForm(t, path, withText(f.entry, path, name), withWord(f.form, 9+i, name))
		}
		for _, text := range append(notNames(), "*", "**", "*a", " ", "a*") {
			if text != "" {
				wantNoForm(t, path+" "+text, withText(f.entry, path, text))
			}
		}
	}
	for set := range 8 {
		pick := func(bit int, name string) string {
			if set&bit == 0 {
				return ""
			}
			return name
		}
		r := rule(verbs(1), pick(1, "k"), pick(2, "t"), pick(4, "p"))
		wantFormOrNot(t, "options", slipEntry(1, impl.GateAsk{Verb: impl.GateGive, To: "bob", Rule: r}))
	}
}

func TestScaleOfForms(t *testing.T) {
	f := formOf(t, "act 6 web 5 2")
	numbers := []int{math.MinInt, -1, 0, 1, 3, 10, 9999999, 10000000, math.MaxInt}
	for _, want := range numbers {
		for _, cool := range numbers {
			for _, scale := range []bool{false, true} {
				e := turnedEntry(f.entry, func(e *impl.HallEntry) { e.Act.Scale, e.Act.Want, e.Act.Cool = scale, want, cool })
				switch {
				case scale && isDecimal(want) && isDecimal(cool):
					wantForm(t, "to scale", e, withWord(f.form, 5, count(want)+":"+count(cool)))
				case !scale && want == 0 && cool == 0:
					wantForm(t, "not to scale", e, f.form)
				default:
					wantNoForm(t, "to scale", e)
				}
			}
		}
	}
}

// A drop is written, whatever else is asked for: what goes together the act's own chapter says.
func TestDropOfForms(t *testing.T) {
	for _, f := range plainForms() {
		if f.entry.Kind != impl.HallAct {
			continue
		}
		for word, drop := range map[string]bool{"*": false, "drop": true} {
			e := turnedEntry(f.entry, func(e *impl.HallEntry) { e.Act.Drop = drop })
			wantForm(t, "a drop", e, withWord(f.form, 7, word))
		}
	}
}

// longEntries gives entries whose forms would have n bytes, for each form that can grow as far.
func longEntries(t *testing.T, n int) map[string]impl.HallEntry {
	t.Helper()
	out := map[string]impl.HallEntry{}
	for _, f := range entryForms() {
		e := copyEntry(f.entry)
		switch e.Kind {
		case impl.HallSlip:
			e.Slip.Wants = wantsOfBytes(n - len(withWord(f.form, 4, "")))
		case impl.HallAct:
			e.Act.Ends = endsOfBytes(n - len(withWord(f.form, 6, "")))
		default:
			continue
		}
		out[f.form] = e
	}
	return out
}

// wantsOfBytes are wants that are written with n bytes.
func wantsOfBytes(n int) []impl.GateWant {
	var out []impl.GateWant
	for ; n >= 12; n -= 6 {
		out = append(out, serviceWant("abc", 5))
	}
	return append(out, serviceWant(long(n-2), 7))
}

// endsOfBytes are ends that are written with n bytes.
func endsOfBytes(n int) []impl.StewEnd {
	var out []impl.StewEnd
	for ; n >= 9; n -= 4 {
		out = append(out, impl.StewEnd{Number: 1, Seen: 2})
	}
	number := 1
	for range n - 3 {
		number *= 10
	}
	return append(out, impl.StewEnd{Number: number, Seen: 3})
}

func TestHowLongFormsAre(t *testing.T) {
	for n := 100; n <= impl.RecMaxText+40; n++ {
		for what, e := range longEntries(t, n) {
			if n > impl.RecMaxText {
				wantNoForm(t, what+" of bytes: "+count(n), e)
				continue
			}
			form := formByHand(e)
			if len(form) != n {
				t.Fatalf("%s: %q has not %d bytes", what, form, n)
			}
			wantForm(t, what, e, form)
		}
	}
	for _, n := range []int{1000, 100000} {
		for what, e := range longEntries(t, n) {
			wantNoForm(t, what+" of bytes: "+count(n), e)
		}
	}
	many := slipEntry(1, impl.GateAsk{Verb: impl.GateGive, To: "bob", Rule: rule(slices.Repeat([]int{1}, 1000000), "", "", "")})
	wantNoForm(t, "many verbs", many)
}

// The longest form of each Kind that has no list is well within a text.
func TestFormsThatAreNeverTooLong(t *testing.T) {
	for _, f := range entryForms() {
		e := withNumber(f.entry, "Number", impl.HallMaxNumber)
		for _, path := range strings.Fields(f.names) {
			e = withText(e, path, long(impl.GateMaxName))
		}
		for _, path := range strings.Fields(f.numbers) {
			e = withNumber(e, path, 9999999)
		}
		wantForm(t, "long words", e, formByHand(e))
	}
}
