package tests

import (
	"regexp"
	"strconv"
	"strings"
	"testing"

	"loop.example/wharfhall/impl"
)

// handWords are what the document's words in capitals stand for.
func handWords() []string {
	name, decimal := `[a-z0-9-]{1,16}`, `(?:0|[1-9][0-9]{0,6})`
	listOf := func(part string) string { return `(?:\*|` + part + `(?:,` + part + `)*)` }
	return []string{
		"NUMBER", `(?:[1-9][0-9]{0,5}|1000000)`,
		"NAME", name,
		"DECIMAL", decimal,
		"WANTS", listOf(name + `:` + decimal),
		"HOLDS", listOf(name),
		"ENDS", listOf(decimal + `:` + decimal),
		"VALUES", `(?:` + name + `)?(?:,(?:` + name + `)?){5}`,
		"VERBS", `[0-9]+`,
		"OPTION", `(?:\*|` + name + `)`,
		"SCALE", `(?:\*|` + decimal + `:` + decimal + `)`,
		"DROP", `(?:\*|drop)`,
	}
}

// handForms are the forms of all Kinds, each with what its words, counted from 0, make.
func handForms() map[string]func(w []string) impl.HallEntry {
	slip := func(w []string, a impl.GateAsk) impl.HallEntry {
		a.Who = w[5]
		return impl.HallEntry{Kind: 1, Slip: impl.GateSlip{Door: w[2], Given: handNumber(w[3]), Wants: handWants(w[4]), Ask: a}}
	}
	sea := func(e impl.StewEvent) impl.HallEntry { return impl.HallEntry{Kind: 8, Sea: e} }
	return map[string]func(w []string) impl.HallEntry{
		slipWords + "make NAME NAME HOLDS VALUES": func(w []string) impl.HallEntry {
			return slip(w, impl.GateAsk{Verb: 1, Kind: "service", Name: w[7], Team: w[8], Holds: handList(w[9]), Values: strings.Split(w[10], ",")})
		},
		slipWords + "change NAME DECIMAL VALUES": func(w []string) impl.HallEntry {
			return slip(w, impl.GateAsk{Verb: 2, Kind: "service", Name: w[7], Seen: handNumber(w[8]), Values: strings.Split(w[9], ",")})
		},
		slipWords + "end NAME DECIMAL": func(w []string) impl.HallEntry {
			return slip(w, impl.GateAsk{Verb: 3, Kind: "service", Name: w[7], Seen: handNumber(w[8])})
		},
		slipWords + "letgo NAME NAME": func(w []string) impl.HallEntry {
			return slip(w, impl.GateAsk{Verb: 4, Kind: "service", Name: w[7], Hold: w[8]})
		},
		slipWords + "give NAME VERBS OPTION OPTION OPTION": func(w []string) impl.HallEntry {
			return slip(w, impl.GateAsk{Verb: 5, To: w[7], Rule: rule(handVerbs(w[8]), handOption(w[9]), handOption(w[10]), handOption(w[11]))})
		},
		slipWords + "take DECIMAL": func(w []string) impl.HallEntry {
			return slip(w, impl.GateAsk{Verb: 6, Number: handNumber(w[7])})
		},
		"draw NUMBER NAME NAME NAME DECIMAL": func(w []string) impl.HallEntry {
			return impl.HallEntry{Kind: 2, Door: w[2], Team: w[3], Resource: w[4], Amount: handNumber(w[5])}
		},
		"back NUMBER NAME NAME NAME": func(w []string) impl.HallEntry {
			return impl.HallEntry{Kind: 3, Door: w[2], Team: w[3], Resource: w[4]}
		},
		"bound NUMBER NAME NAME DECIMAL": func(w []string) impl.HallEntry {
			return impl.HallEntry{Kind: 4, Team: w[2], Resource: w[3], Amount: handNumber(w[4])}
		},
		"time NUMBER":  func(w []string) impl.HallEntry { return impl.HallEntry{Kind: 5} },
		"sweep NUMBER": func(w []string) impl.HallEntry { return impl.HallEntry{Kind: 6} },
		"act NUMBER NAME DECIMAL DECIMAL SCALE ENDS DROP": func(w []string) impl.HallEntry {
			want, cool, scale := strings.Cut(w[5], ":")
			return impl.HallEntry{Kind: 7, Act: impl.StewAct{Service: w[2], Seen: handNumber(w[3]), Create: handNumber(w[4]),
				Scale: scale, Want: handNumber(want), Cool: handNumber(cool), Ends: handEnds(w[6]), Drop: w[7] == "drop"}}
		},
		"sea NUMBER tick": func(w []string) impl.HallEntry { return sea(impl.StewEvent{Kind: 1}) },
		"sea NUMBER fails NAME DECIMAL": func(w []string) impl.HallEntry {
			return sea(impl.StewEvent{Kind: 3, Name: w[3], Number: handNumber(w[4])})
		},
		"sea NUMBER sink NAME":  func(w []string) impl.HallEntry { return sea(impl.StewEvent{Kind: 4, Name: w[3]}) },
		"sea NUMBER raise NAME": func(w []string) impl.HallEntry { return sea(impl.StewEvent{Kind: 5, Name: w[3]}) },
		"sea NUMBER drain NAME": func(w []string) impl.HallEntry { return sea(impl.StewEvent{Kind: 5, Name: w[3], Flag: true}) },
		"sea NUMBER load NAME DECIMAL": func(w []string) impl.HallEntry {
			return sea(impl.StewEvent{Kind: 6, Name: w[3], Number: handNumber(w[4])})
		},
	}
}

type handForm struct {
	pattern *regexp.Regexp
	build   func(w []string) impl.HallEntry
}

// handPatterns are handForms with patterns, by their first words.
var handPatterns = func() map[string][]handForm {
	out := map[string][]handForm{}
	words := strings.NewReplacer(handWords()...)
	for form, build := range handForms() {
		first, _, _ := strings.Cut(form, " ")
		out[first] = append(out[first], handForm{regexp.MustCompile(`\A` + words.Replace(form) + `\z`), build})
	}
	return out
}()

// readByHand is what the document's words say to a text.
func readByHand(s string) (impl.HallEntry, bool) {
	first, _, _ := strings.Cut(s, " ")
	for _, f := range handPatterns[first] {
		if len(s) <= 160 && f.pattern.MatchString(s) {
			words := strings.Split(s, " ")
			e := f.build(words)
			e.Number = handNumber(words[1])
			return e, true
		}
	}
	return impl.HallEntry{}, false
}

func handNumber(word string) int {
	n, _ := strconv.Atoi(word)
	return n
}

func handList(word string) []string {
	if word == "*" {
		return nil
	}
	return strings.Split(word, ",")
}

func handOption(word string) string {
	return strings.TrimPrefix(word, "*")
}

func handVerbs(word string) []int {
	var out []int
	for _, digit := range strings.Split(word, "") {
		out = append(out, handNumber(digit))
	}
	return out
}

func handWants(word string) []impl.GateWant {
	var out []impl.GateWant
	for _, part := range handList(word) {
		name, version, _ := strings.Cut(part, ":")
		out = append(out, serviceWant(name, handNumber(version)))
	}
	return out
}

func handEnds(word string) []impl.StewEnd {
	var out []impl.StewEnd
	for _, part := range handList(word) {
		number, seen, _ := strings.Cut(part, ":")
		out = append(out, impl.StewEnd{Number: handNumber(number), Seen: handNumber(seen)})
	}
	return out
}

// handPen writes an entry. What is written is taken out of the entry, so that what is not written is left in it.
type handPen struct {
	words []string
	wrong bool
}

func (p *handPen) put(right bool, word string) {
	p.words, p.wrong = append(p.words, word), p.wrong || !right
}

func takenOut[T any](part *T) T {
	was := *part
	*part = *new(T)
	return was
}

func (p *handPen) name(parts ...*string) {
	for _, part := range parts {
		p.put(handName.MatchString(*part), takenOut(part))
	}
}

func (p *handPen) option(parts ...*string) {
	for _, part := range parts {
		if *part == "" {
			p.put(true, "*")
		} else {
			p.name(part)
		}
	}
}

func (p *handPen) number(parts ...*int) {
	for _, part := range parts {
		p.put(isDecimal(*part), strconv.Itoa(takenOut(part)))
	}
}

func isDecimal(n int) bool {
	return 0 <= n && n <= 9999999
}

// service takes a Kind that is told by no word, but is known.
func (p *handPen) service(kind *string) {
	p.wrong = p.wrong || *kind != "service"
	*kind = ""
}

func (p *handPen) list(right bool, parts []string) {
	if len(parts) == 0 {
		parts = []string{"*"}
	}
	p.put(right, strings.Join(parts, ","))
}

func (p *handPen) holds(holds *[]string) {
	right := true
	for _, h := range *holds {
		right = right && handName.MatchString(h)
	}
	p.list(right, takenOut(holds))
}

func (p *handPen) values(values *[]string) {
	right := len(*values) == 6
	for _, v := range *values {
		right = right && (v == "" || handName.MatchString(v))
	}
	p.list(right, takenOut(values))
}

func (p *handPen) wants(wants *[]impl.GateWant) {
	right, parts := true, []string(nil)
	for _, w := range takenOut(wants) {
		right = right && w.Kind == "service" && handName.MatchString(w.Name) && isDecimal(w.Version)
		parts = append(parts, w.Name+":"+strconv.Itoa(w.Version))
	}
	p.list(right, parts)
}

func (p *handPen) ends(ends *[]impl.StewEnd) {
	right, parts := true, []string(nil)
	for _, e := range takenOut(ends) {
		right = right && isDecimal(e.Number) && isDecimal(e.Seen)
		parts = append(parts, strconv.Itoa(e.Number)+":"+strconv.Itoa(e.Seen))
	}
	p.list(right, parts)
}

func (p *handPen) verbs(verbs *[]int) {
	right, word := len(*verbs) > 0, ""
	for _, v := range takenOut(verbs) {
		right = right && 0 <= v && v <= 9
		word += strconv.Itoa(v)
	}
	p.put(right, word)
}

func (p *handPen) slip(s *impl.GateSlip) {
	p.name(&s.Door)
	p.number(&s.Given)
	p.wants(&s.Wants)
	p.name(&s.Ask.Who)
	a, verb := &s.Ask, takenOut(&s.Ask.Verb)
	p.put(1 <= verb && verb <= 6, map[int]string{1: "make", 2: "change", 3: "end", 4: "letgo", 5: "give", 6: "take"}[verb])
	if 1 <= verb && verb <= 4 {
		p.service(&a.Kind)
		p.name(&a.Name)
	}
	switch verb {
	case 1:
		p.name(&a.Team)
		p.holds(&a.Holds)
		p.values(&a.Values)
	case 2:
		p.number(&a.Seen)
		p.values(&a.Values)
	case 3:
		p.number(&a.Seen)
	case 4:
		p.name(&a.Hold)
	case 5:
		p.name(&a.To)
		p.verbs(&a.Rule.Verbs)
		p.option(&a.Rule.Kind, &a.Rule.Team, &a.Rule.Prefix)
	case 6:
		p.number(&a.Number)
	}
}

func (p *handPen) act(a *impl.StewAct) {
	p.name(&a.Service)
	p.number(&a.Seen, &a.Create)
	if takenOut(&a.Scale) {
		p.put(isDecimal(a.Want) && isDecimal(a.Cool), strconv.Itoa(takenOut(&a.Want))+":"+strconv.Itoa(takenOut(&a.Cool)))
	} else {
		p.put(true, "*")
	}
	p.ends(&a.Ends)
	p.put(true, map[bool]string{true: "drop", false: "*"}[takenOut(&a.Drop)])
}

func (p *handPen) sea(e *impl.StewEvent) {
	kind := takenOut(&e.Kind)
	word := map[int]string{1: "tick", 3: "fails", 4: "sink", 5: "raise", 6: "load"}[kind]
	if kind == 5 && takenOut(&e.Flag) {
		word = "drain"
	}
	p.put(word != "", word)
	if kind != 1 {
		p.name(&e.Name)
	}
	if kind == 3 || kind == 6 {
		p.number(&e.Number)
	}
}

// formByHand is what the document's words say to an entry.
func formByHand(given impl.HallEntry) string {
	e, p := copyEntry(given), &handPen{}
	kind := takenOut(&e.Kind)
	p.put(1 <= kind && kind <= 8, map[int]string{1: "slip", 2: "draw", 3: "back", 4: "bound", 5: "time", 6: "sweep", 7: "act", 8: "sea"}[kind])
	p.put(1 <= e.Number && e.Number <= 1000000, strconv.Itoa(takenOut(&e.Number)))
	switch kind {
	case 1:
		p.slip(&e.Slip)
	case 2:
		p.name(&e.Door, &e.Team, &e.Resource)
		p.number(&e.Amount)
	case 3:
		p.name(&e.Door, &e.Team, &e.Resource)
	case 4:
		p.name(&e.Team, &e.Resource)
		p.number(&e.Amount)
	case 7:
		p.act(&e.Act)
	case 8:
		p.sea(&e.Sea)
	}
	form := strings.Join(p.words, " ")
	if p.wrong || len(form) > 160 || !sameWhole(e, impl.HallEntry{}) {
		return ""
	}
	return form
}

// The hand has to be right itself, ahead of anything that is held against it.
func TestTheHandThatWritesEntries(t *testing.T) {
	for _, f := range entryForms() {
		if got := formByHand(f.entry); got != f.form {
			t.Errorf("by hand the form of %s is %q, not %q", entryTold(f.entry), got, f.form)
		}
		if got, ok := readByHand(f.form); !ok || !sameWhole(got, f.entry) {
			t.Errorf("by hand %q is read as %s, %v", f.form, entryTold(got), ok)
		}
	}
	if len(handForms()) != 18 {
		t.Errorf("by hand there are %d forms", len(handForms()))
	}
}
