package tests

import (
	"fmt"
	"reflect"
	"slices"
	"strings"
	"testing"

	"loop.example/wharfhall/impl"
)

// entryForm is an entry with its form, and what the document says of the form's
// words, one for one. The places of the entry's parts that are names, numbers and
// anything else are told by their paths; all other parts are not written.
type entryForm struct {
	entry   impl.HallEntry
	form    string
	words   string
	names   string
	numbers string
	others  string
}

const (
	slipNames = "Slip.Door Slip.Ask.Who "
	slipWords = "slip NUMBER NAME DECIMAL WANTS NAME "
	slipElse  = "Slip.Wants Slip.Ask.Verb Slip.Ask.Kind "
	actParts  = "Act.Want Act.Cool Act.Scale Act.Ends Act.Drop"
)

// slipEntry is the entry of a slip of the door d1, made where Given was 7, of what ann asks.
func slipEntry(number int, a impl.GateAsk, wants ...impl.GateWant) impl.HallEntry {
	a.Who = "ann"
	return impl.HallEntry{Kind: impl.HallSlip, Number: number, Slip: impl.GateSlip{Door: "d1", Ask: a, Given: 7, Wants: wants}}
}

func serviceWant(name string, version int) impl.GateWant {
	return wanted("service", name, version)
}

func actEntry(a impl.StewAct) impl.HallEntry {
	return impl.HallEntry{Kind: impl.HallAct, Number: 6, Act: a}
}

func seaEntry(e impl.StewEvent) impl.HallEntry {
	return impl.HallEntry{Kind: impl.HallSea, Number: 9, Sea: e}
}

func sixValues(told string) []string {
	return strings.Split(told, ",")
}

// slipForms have every ask, with and without what may be left out.
func slipForms() []entryForm {
	return []entryForm{
		{slipEntry(1, impl.GateAsk{Verb: 1, Kind: "service", Name: "web", Team: "dev", Holds: []string{"fleet"}, Values: sixValues("1,2,,1,,")}, serviceWant("web", 0)),
			"slip 1 d1 7 web:0 ann make web dev fleet 1,2,,1,,", slipWords + "make NAME NAME HOLDS VALUES",
			slipNames + "Slip.Ask.Name Slip.Ask.Team", "Slip.Given", slipElse + "Slip.Ask.Holds Slip.Ask.Values"},
		{slipEntry(2, impl.GateAsk{Verb: 1, Kind: "service", Name: "w", Team: "x", Values: sixValues(",,,,,")}),
			"slip 2 d1 7 * ann make w x * ,,,,,", slipWords + "make NAME NAME HOLDS VALUES",
			slipNames + "Slip.Ask.Name Slip.Ask.Team", "Slip.Given", slipElse + "Slip.Ask.Holds Slip.Ask.Values"},
		{slipEntry(3, impl.GateAsk{Verb: 2, Kind: "service", Name: "web", Seen: 4, Values: sixValues("1,2,0,1,9,db")}, serviceWant("web", 4), serviceWant("db", 2)),
			"slip 3 d1 7 web:4,db:2 ann change web 4 1,2,0,1,9,db", slipWords + "change NAME DECIMAL VALUES",
			slipNames + "Slip.Ask.Name", "Slip.Given Slip.Ask.Seen", slipElse + "Slip.Ask.Values"},
		{slipEntry(4, impl.GateAsk{Verb: 3, Kind: "service", Name: "web"}, serviceWant("web", 4)),
			"slip 4 d1 7 web:4 ann end web 0", slipWords + "end NAME DECIMAL",
			slipNames + "Slip.Ask.Name", "Slip.Given Slip.Ask.Seen", slipElse},
		{slipEntry(5, impl.GateAsk{Verb: 4, Kind: "service", Name: "web", Hold: "audit"}, serviceWant("web", 4)),
			"slip 5 d1 7 web:4 ann letgo web audit", slipWords + "letgo NAME NAME",
			slipNames + "Slip.Ask.Name Slip.Ask.Hold", "Slip.Given", slipElse},
		{slipEntry(6, impl.GateAsk{Verb: 5, To: "bob", Rule: rule(verbs(1, 4, 5), "", "lab", "w-")}),
			"slip 6 d1 7 * ann give bob 145 * lab w-", slipWords + "give NAME VERBS OPTION OPTION OPTION",
			slipNames + "Slip.Ask.To", "Slip.Given", slipElse + "Slip.Ask.Rule.Verbs Slip.Ask.Rule.Kind Slip.Ask.Rule.Team Slip.Ask.Rule.Prefix"},
		{slipEntry(7, impl.GateAsk{Verb: 5, To: "cyd", Rule: rule(verbs(9, 0, 9), "crane", "", "")}, serviceWant("web", 1)),
			"slip 7 d1 7 web:1 ann give cyd 909 crane * *", slipWords + "give NAME VERBS OPTION OPTION OPTION",
			slipNames + "Slip.Ask.To", "Slip.Given", slipElse + "Slip.Ask.Rule.Verbs Slip.Ask.Rule.Kind Slip.Ask.Rule.Team Slip.Ask.Rule.Prefix"},
		{slipEntry(8, impl.GateAsk{Verb: 6, Number: 3}),
			"slip 8 d1 7 * ann take 3", slipWords + "take DECIMAL",
			slipNames, "Slip.Given Slip.Ask.Number", slipElse},
	}
}

// plainForms have all Kinds but those of slips.
func plainForms() []entryForm {
	act := func(a impl.StewAct, form string) entryForm {
		return entryForm{actEntry(a), form, "act NUMBER NAME DECIMAL DECIMAL SCALE ENDS DROP", "Act.Service", "Act.Seen Act.Create", actParts}
	}
	return []entryForm{
		{impl.HallEntry{Kind: 2, Number: 1, Door: "d1", Team: "dev", Resource: "copies", Amount: 5},
			"draw 1 d1 dev copies 5", "draw NUMBER NAME NAME NAME DECIMAL", "Door Team Resource", "Amount", ""},
		{impl.HallEntry{Kind: 3, Number: 2, Door: "d1", Team: "dev", Resource: "copies"},
			"back 2 d1 dev copies", "back NUMBER NAME NAME NAME", "Door Team Resource", "", ""},
		{impl.HallEntry{Kind: 4, Number: 3, Team: "dev", Resource: "copies"},
			"bound 3 dev copies 0", "bound NUMBER NAME NAME DECIMAL", "Team Resource", "Amount", ""},
		{impl.HallEntry{Kind: 5, Number: 4}, "time 4", "time NUMBER", "", "", ""},
		{impl.HallEntry{Kind: 6, Number: 5}, "sweep 5", "sweep NUMBER", "", "", ""},
		act(impl.StewAct{Service: "web", Seen: 5, Create: 2}, "act 6 web 5 2 * * *"),
		act(impl.StewAct{Service: "web", Seen: 5, Scale: true, Want: 3, Ends: []impl.StewEnd{{Number: 1, Seen: 4}, {Number: 2, Seen: 5}}}, "act 6 web 5 0 3:0 1:4,2:5 *"),
		act(impl.StewAct{Service: "web", Seen: 5, Drop: true}, "act 6 web 5 0 * * drop"),
		act(impl.StewAct{Service: "db", Seen: 9999999, Create: 9999999, Scale: true, Want: 0, Cool: 0, Ends: []impl.StewEnd{{}}, Drop: true}, "act 6 db 9999999 9999999 0:0 0:0 drop"),
		{seaEntry(impl.StewEvent{Kind: 1}), "sea 9 tick", "sea NUMBER tick", "", "", "Sea.Kind"},
		{seaEntry(impl.StewEvent{Kind: 3, Name: "web", Number: 2}), "sea 9 fails web 2", "sea NUMBER fails NAME DECIMAL", "Sea.Name", "Sea.Number", "Sea.Kind"},
		{seaEntry(impl.StewEvent{Kind: 4, Name: "a"}), "sea 9 sink a", "sea NUMBER sink NAME", "Sea.Name", "", "Sea.Kind"},
		{seaEntry(impl.StewEvent{Kind: 5, Name: "a"}), "sea 9 raise a", "sea NUMBER raise NAME", "Sea.Name", "", "Sea.Kind Sea.Flag"},
		{seaEntry(impl.StewEvent{Kind: 5, Name: "a", Flag: true}), "sea 9 drain a", "sea NUMBER drain NAME", "Sea.Name", "", "Sea.Kind Sea.Flag"},
		{seaEntry(impl.StewEvent{Kind: 6, Name: "web", Number: 30}), "sea 9 load web 30", "sea NUMBER load NAME DECIMAL", "Sea.Name", "Sea.Number", "Sea.Kind"},
	}
}

func entryForms() []entryForm {
	return append(slipForms(), plainForms()...)
}

// entryParts gives every part of an entry that has no parts of its own but lists, by its path.
func entryParts(e *impl.HallEntry) map[string]reflect.Value {
	out := map[string]reflect.Value{}
	var walk func(path string, v reflect.Value)
	walk = func(path string, v reflect.Value) {
		if v.Kind() != reflect.Struct {
			out[strings.TrimPrefix(path, ".")] = v
			return
		}
		for i := range v.NumField() {
			walk(path+"."+v.Type().Field(i).Name, v.Field(i))
		}
	}
	walk("", reflect.ValueOf(e).Elem())
	return out
}

// entryTold writes what is set of an entry.
func entryTold(e impl.HallEntry) string {
	var told []string
	for path, part := range entryParts(&e) {
		if !part.IsZero() {
			told = append(told, fmt.Sprintf("%s %.300q", path, fmt.Sprint(part)))
		}
	}
	slices.Sort(told)
	return "{" + strings.Join(told, ", ") + "}"
}

func copyEntry(e impl.HallEntry) impl.HallEntry {
	return withRoom(e)
}

// withText is an entry with another text at a path.
func withText(e impl.HallEntry, path, text string) impl.HallEntry {
	out := copyEntry(e)
	entryParts(&out)[path].SetString(text)
	return out
}

// withNumber is an entry with another number at a path.
func withNumber(e impl.HallEntry, path string, n int) impl.HallEntry {
	out := copyEntry(e)
	entryParts(&out)[path].SetInt(int64(n))
	return out
}

// turnedEntry is an entry of which something is turned.
func turnedEntry(e impl.HallEntry, turn func(e *impl.HallEntry)) impl.HallEntry {
	out := copyEntry(e)
	turn(&out)
	return out
}

// wantForm asks that an entry has a form, which is read as the entry.
func wantForm(t *testing.T, what string, e impl.HallEntry, form string) {
	t.Helper()
	if got := impl.HallForm(e); got != form {
		t.Errorf("%s: the form of %s is %q, not %q", what, entryTold(e), got, form)
	}
	if got, ok := impl.HallRead(form); !ok || !sameWhole(got, e) {
		t.Errorf("%s: %q is read as %s, %v, not %s", what, form, entryTold(got), ok, entryTold(e))
	}
}

func wantNoForm(t *testing.T, what string, e impl.HallEntry) {
	t.Helper()
	if got := impl.HallForm(e); got != "" {
		t.Errorf("%s: the form of %s is %q", what, entryTold(e), got)
	}
}

// wantFormOrNot asks for the answer that the words give.
func wantFormOrNot(t *testing.T, what string, e impl.HallEntry) bool {
	t.Helper()
	form := formByHand(e)
	if form == "" {
		wantNoForm(t, what, e)
		return false
	}
	wantForm(t, what, e, form)
	return true
}

// wantRead asks that a text is the form of an entry.
func wantRead(t *testing.T, what string, text string) {
	t.Helper()
	e, ok := impl.HallRead(text)
	if by, read := readByHand(text); !ok || !read || !sameWhole(e, by) {
		t.Errorf("%s: %q is read as %s, %v, not as %s, %v", what, text, entryTold(e), ok, entryTold(by), read)
		return
	}
	wantForm(t, what, e, text)
}

func wantUnread(t *testing.T, what string, text string) {
	t.Helper()
	if e, ok := impl.HallRead(text); ok || !sameWhole(e, impl.HallEntry{}) {
		t.Errorf("%s: %q is read as %s, %v", what, text, entryTold(e), ok)
	}
}

// wantReadOrNot asks for the answer that the words give.
func wantReadOrNot(t *testing.T, what string, text string) bool {
	t.Helper()
	if _, ok := readByHand(text); !ok {
		wantUnread(t, what, text)
		return false
	}
	wantRead(t, what, text)
	return true
}

// withWord is a text with another word at a place.
func withWord(text string, at int, word string) string {
	words := strings.Split(text, " ")
	words[at] = word
	return strings.Join(words, " ")
}

func hasPath(paths, path string) bool {
	return slices.Contains(strings.Fields(paths), path)
}
