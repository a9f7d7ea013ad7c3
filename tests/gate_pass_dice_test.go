package tests

import (
	"regexp"
	"slices"
	"strconv"
	"strings"

	"loop.example/wharfhall/impl"
)

var handName = regexp.MustCompile(`^[a-z0-9-]{1,16}\z`)

// askByHand is what the document's table says of an ask, of a law that is ok.
func askByHand(l impl.GateLaw, a impl.GateAsk) bool {
	uses := map[int]string{
		1: "kind name team values holds", 2: "kind name values seen", 3: "kind name seen",
		4: "kind name hold", 5: "to rule", 6: "number",
	}[a.Verb]
	shape := slices.IndexFunc(l.Shapes, func(s impl.GateShape) bool { return s.Kind == a.Kind })
	team := slices.ContainsFunc(l.Teams, func(t impl.GateTeam) bool { return t.Name == a.Team })
	r, ok := a.Rule, handName.MatchString(a.Who) && uses != ""
	for word, is := range map[string]struct{ right, nothing bool }{
		"kind":   {shape >= 0, a.Kind == ""},
		"name":   {handName.MatchString(a.Name), a.Name == ""},
		"team":   {team, a.Team == ""},
		"values": {shape >= 0 && len(l.Shapes[shape].Fields) == len(a.Values), len(a.Values) == 0},
		"holds":  {holdsByHand(a.Holds), len(a.Holds) == 0},
		"seen":   {a.Seen >= 0, a.Seen == 0},
		"hold":   {handName.MatchString(a.Hold), a.Hold == ""},
		"to":     {handName.MatchString(a.To), a.To == ""},
		"rule":   {ruleByHand(r), len(r.Verbs) == 0 && r.Kind+r.Team+r.Prefix == ""},
		"number": {a.Number >= 1, a.Number == 0},
	} {
		if slices.Contains(strings.Fields(uses), word) {
			ok = ok && is.right
		} else {
			ok = ok && is.nothing
		}
	}
	return ok
}

func holdsByHand(holds []string) bool {
	for i, h := range holds {
		if !handName.MatchString(h) || i > 0 && holds[i-1] >= h {
			return false
		}
	}
	return len(holds) <= 3
}

func ruleByHand(r impl.GateRule) bool {
	for i, v := range r.Verbs {
		if v < 1 || v > 5 || i > 0 && r.Verbs[i-1] >= v {
			return false
		}
	}
	for _, s := range []string{r.Kind, r.Team, r.Prefix} {
		if s != "" && !handName.MatchString(s) {
			return false
		}
	}
	return len(r.Verbs) > 0
}

// passByHand answers by the document's words, code by code.
func passByHand(l impl.GateLaw, b impl.GateBook, door string, a impl.GateAsk) (impl.GateBook, impl.GateSaid) {
	h, said := lookByHand(l, b, door, a, anyCode)
	switch said.Code {
	case 0:
		h.do()
		return h.b, impl.GateSaid{Version: h.b.Now}
	case 1, 2:
		return impl.GateBook{}, said
	}
	return bookCopy(b), said
}

// lookByHand looks for the codes of an ask that count.
func lookByHand(l impl.GateLaw, b impl.GateBook, door string, a impl.GateAsk, counts func(code int) bool) (*handPass, impl.GateSaid) {
	h := &handPass{l: l, b: bookCopy(b), door: door, a: a, made: a.Verb == 1, changed: a.Verb == 2, of: a.Verb <= 4}
	if !impl.GateBookOk(l, b) || !handName.MatchString(door) {
		return h, impl.GateSaid{Code: 1}
	}
	if !askByHand(l, a) {
		return h, impl.GateSaid{Code: 2}
	}
	h.find()
	for i, look := range []func() impl.GateSaid{h.three, h.four, h.five, h.six, h.seven, h.eight, h.nine, h.ten, h.eleven} {
		if !counts(3 + i) {
			continue
		}
		if said := look(); said.Code != 0 {
			return h, said
		}
	}
	return h, impl.GateSaid{}
}

// handPass is an ask as it is looked into by hand.
type handPass struct {
	l                 impl.GateLaw
	b                 impl.GateBook
	door              string
	a                 impl.GateAsk
	made, changed, of bool
	at, given         int
	old, next         impl.GateObject
}

func (h *handPass) find() {
	h.at = placeIn(h.b, impl.GateObject{Kind: h.a.Kind, Name: h.a.Name})
	h.given = slices.IndexFunc(h.b.Grants, func(g impl.GateGrant) bool { return g.Number == h.a.Number })
	if h.of && h.at >= 0 {
		h.old = h.b.Objects[h.at]
	}
	next := h.old
	next.Values = h.a.Values
	if h.made {
		next = impl.GateObject{Kind: h.a.Kind, Name: h.a.Name, Team: h.a.Team, Values: h.a.Values, Holds: h.a.Holds}
	}
	h.next = impl.GateShaped(h.l.Shapes, h.l.Mends, next)
}

func codeIf(wrong bool, code int) impl.GateSaid {
	if wrong {
		return impl.GateSaid{Code: code}
	}
	return impl.GateSaid{}
}

func (h *handPass) three() impl.GateSaid {
	switch h.a.Verb {
	case 1:
		return codeIf(h.at >= 0, 3)
	case 2, 3, 4:
		return codeIf(h.at < 0, 3)
	}
	return codeIf(h.a.Verb == 6 && h.given < 0, 3)
}

func (h *handPass) four() impl.GateSaid {
	var mine []impl.GateRule
	for _, g := range h.b.Grants {
		if g.To == h.a.Who {
			mine = append(mine, g.Rule)
		}
	}
	covers := func(r impl.GateRule) bool {
		if !slices.Contains(r.Verbs, 5) {
			r.Verbs = append(slices.Clone(r.Verbs), 5)
		}
		return impl.GateCovers(h.l.Teams, mine, r)
	}
	switch h.a.Verb {
	case 5:
		return codeIf(!covers(h.a.Rule), 4)
	case 6:
		g := h.b.Grants[h.given]
		return codeIf(g.By != h.a.Who && !covers(g.Rule), 4)
	}
	team := h.old.Team
	if h.made {
		team = h.a.Team
	}
	return codeIf(!anyAllows(h.l.Teams, mine, act(h.a.Verb, h.a.Kind, team, h.a.Name)), 4)
}

func (h *handPass) five() impl.GateSaid {
	if h.a.Seen != 0 && h.a.Seen != h.old.Version {
		return impl.GateSaid{Code: 5, Version: h.old.Version}
	}
	return impl.GateSaid{}
}

func (h *handPass) six() impl.GateSaid {
	return codeIf((h.a.Verb == 2 || h.a.Verb == 3) && h.old.Ending, 6)
}

func (h *handPass) seven() impl.GateSaid {
	if code, place := impl.GateCheck(h.l.Shapes, h.next); (h.made || h.changed) && code != 0 {
		return impl.GateSaid{Code: 7, Place: place}
	}
	return impl.GateSaid{}
}

func (h *handPass) eight() impl.GateSaid {
	if code, place := impl.GateTurned(h.l.Shapes, h.old, h.next); h.changed && code == 4 {
		return impl.GateSaid{Code: 8, Place: place}
	}
	return impl.GateSaid{}
}

func (h *handPass) nine() impl.GateSaid {
	for _, link := range h.newLinks() {
		at := placeIn(h.b, link.to)
		if at < 0 || h.b.Objects[at].Ending {
			return impl.GateSaid{Code: 9, Place: link.place}
		}
	}
	return impl.GateSaid{}
}

// handLink is the place of a link, and what it names.
type handLink struct {
	place int
	to    impl.GateObject
}

// newLinks are the links that would be set, and to something else than before.
func (h *handPass) newLinks() []handLink {
	var out []handLink
	for _, s := range h.l.Shapes {
		for i, f := range s.Fields {
			if !h.made && !h.changed || s.Kind != h.a.Kind || f.Kind != impl.GateLink || h.next.Values[i] == "" {
				continue
			}
			if h.changed && h.old.Values[i] == h.next.Values[i] {
				continue
			}
			out = append(out, handLink{i, impl.GateObject{Kind: f.To, Name: h.next.Values[i]}})
		}
	}
	return out
}

// more is by how much the object would weigh more than before.
func (h *handPass) more(g impl.GateLedger) int {
	if !h.made && !h.changed || !underByHand(h.l, h.next.Team, g.Team) {
		return 0
	}
	more := weighsByHand(h.l, h.next, g.Resource)
	if h.changed {
		more -= weighsByHand(h.l, h.old, g.Resource)
	}
	return more
}

func (h *handPass) ten() impl.GateSaid {
	for i, g := range h.b.Ledgers {
		has := 0
		if at := (purseCall{door: h.door, team: g.Team, resource: g.Resource}).purseAt(&h.b); at >= 0 {
			has = h.b.Purses[at].Amount
		}
		if more := h.more(g); more > 0 && more > has {
			return impl.GateSaid{Code: 10, Place: i}
		}
	}
	return impl.GateSaid{}
}

func (h *handPass) eleven() impl.GateSaid {
	return codeIf(h.a.Verb == 4 && !slices.Contains(h.old.Holds, h.a.Hold) || h.made && len(h.b.Objects) == 40 ||
		h.a.Verb == 5 && len(h.b.Grants) == 24 || h.b.Now == 1000000, 11)
}

func (h *handPass) do() {
	for i, g := range h.b.Ledgers {
		if more := h.more(g); more > 0 {
			pay(&h.b, h.door, g.Team, g.Resource, more)
		} else {
			h.b.Ledgers[i].Free -= more
		}
	}
	switch h.a.Verb {
	case 3:
		h.next = h.old
		h.next.Ending = true
	case 4:
		h.next = h.old
		h.next.Holds = slices.DeleteFunc(slices.Clone(h.old.Holds), func(s string) bool { return s == h.a.Hold })
	case 5:
		h.b.Grants = append(h.b.Grants, grant(h.b.Now+1, h.a.To, h.a.Who, h.a.Rule))
	case 6:
		h.b.Grants = slices.Delete(h.b.Grants, h.given, h.given+1)
	}
	if h.of {
		stand(&h.b, h.next)
		return
	}
	h.b.Now++
	h.b.Given = h.b.Now
}

// dicePassLaw is the law of asks with other teams.
func dicePassLaw(d *dice) impl.GateLaw {
	l := passLaw()
	l.Teams = someTeams(d)
	return l
}

// dicePassRule is often wide enough for what is asked.
func dicePassRule(d *dice) impl.GateRule {
	r := diceRule(d)
	r.Kind = oneOf(d, "", "", "barge", "pier", "rope")
	r.Team, r.Prefix = oneOf(d, "", r.Team), oneOf(d, "", "", "n", "n1", "n101")
	return r
}

// dicePassBook is an ok book by a law of dicePassLaw.
func dicePassBook(d *dice, l impl.GateLaw) impl.GateBook {
	b := impl.GateBook{Now: oneOf(d, 8+d.below(50), 8+d.below(50), impl.GateMaxVersion-d.below(2)), Tick: d.below(90)}
	most := oneOf(d, 4, 4, 8, 12)
	barges, piers, ropes := names(d.below(most)), names(d.below(most)), names(1+d.below(most))
	if d.below(6) == 0 {
		ropes = names(impl.GateMaxObjects - len(barges) - len(piers) - d.below(2))
	}
	for _, name := range barges {
		o := barge(name, "", 0, count(d.below(20)), count(d.below(9)), oneOf(d, "", "blue", "red"), oneOf(d, "", count(d.below(20))), someOf(d, piers), someOf(d, barges))
		if o.Values[2] == "red" {
			o.Values[3] = "9"
		}
		b.Objects = append(b.Objects, o)
	}
	for _, name := range piers {
		b.Objects = append(b.Objects, impl.GateObject{Kind: "pier", Name: name, Values: []string{oneOf(d, ropes...), someOf(d, piers), oneOf(d, "", count(d.below(4)))}})
	}
	for _, name := range ropes {
		b.Objects = append(b.Objects, impl.GateObject{Kind: "rope", Name: name})
	}
	for i := range b.Objects {
		o := &b.Objects[i]
		o.Team, o.Version, o.Ending, o.Holds = oneOf(d, l.Teams...).Name, 1+d.below(b.Now), d.below(5) == 0, names(d.below(3))
	}
	grants := 1 + d.below(7)
	if d.below(6) == 0 {
		grants = impl.GateMaxGrants - d.below(2)
	}
	b.Now = max(b.Now, grants)
	b.Given = grants + d.below(b.Now-grants+1)
	b.Grants = append(b.Grants, grant(1, "ann", "", openRule()))
	for n := 2; n <= grants; n++ {
		b.Grants = append(b.Grants, grant(n, oneOf(d, "bob", "cy"), oneOf(d, "ann", "bob", "cy"), dicePassRule(d)))
	}
	diceBounds(d, l, &b, []string{"barge", "hands", "pier", "rope", "tons"})
	return b
}

// someOf is one of a list, or the empty text.
func someOf(d *dice, list []string) string {
	if len(list) == 0 || d.below(2) == 0 {
		return ""
	}
	return oneOf(d, list...)
}

// diceAsk is mostly of what there is, and near to what an ask that is done would be.
func diceAsk(d *dice, l impl.GateLaw, b impl.GateBook) impl.GateAsk {
	a := impl.GateAsk{Who: oneOf(d, "ann", "ann", "bob", "cy", "eve"), Verb: 1 + d.below(6)}
	switch a.Verb {
	case impl.GateGive:
		a.To, a.Rule = oneOf(d, "ann", "bob", "cy"), dicePassRule(d)
		// What somebody has is more often given on than anything else.
		if len(b.Grants) > 0 && d.below(2) == 0 {
			g := oneOf(d, b.Grants...)
			a.Who, a.Rule = g.To, g.Rule
			a.Rule.Prefix, a.Rule.Verbs = g.Rule.Prefix+oneOf(d, "", "", "1"), g.Rule.Verbs[d.below(len(g.Rule.Verbs)):]
		}
	case impl.GateTake:
		a.Number = 1 + d.below(min(b.Given, 30)+1)
		if len(b.Grants) > 0 && d.below(2) == 0 {
			a.Number = oneOf(d, b.Grants...).Number
		}
	default:
		diceObjectAsk(d, l, b, &a)
	}
	return spoiledByDice(d, a)
}

// diceObjectAsk fills an ask that is about an object, which is there unless it is to be made.
func diceObjectAsk(d *dice, l impl.GateLaw, b impl.GateBook, a *impl.GateAsk) {
	kind := oneOf(d, l.Shapes...)
	a.Kind, a.Name = kind.Kind, oneOf(d, names(13)...)
	old := impl.GateObject{Kind: a.Kind, Values: make([]string, len(kind.Fields))}
	if same := ofKind(b, a.Kind); len(same) > 0 && a.Verb != impl.GateMake {
		old = oneOf(d, same...)
		a.Name = old.Name
	}
	switch a.Verb {
	case impl.GateMake:
		a.Team, a.Holds = oneOf(d, l.Teams...).Name, names(d.below(4))
		a.Values = turnedValues(d, b, kind, old.Values, 1)
	case impl.GateChange:
		a.Values = turnedValues(d, b, kind, old.Values, 3)
		a.Seen = oneOf(d, 0, old.Version, old.Version, d.below(60))
	case impl.GateEnd:
		a.Seen = oneOf(d, 0, old.Version, old.Version, d.below(60))
	case impl.GateLetGo:
		a.Hold = oneOf(d, names(3)...)
	}
}

func ofKind(b impl.GateBook, kind string) []impl.GateObject {
	return slices.DeleteFunc(slices.Clone(b.Objects), func(o impl.GateObject) bool { return o.Kind != kind })
}

// turnedValues sets, of each so many values, one anew.
func turnedValues(d *dice, b impl.GateBook, s impl.GateShape, old []string, each int) []string {
	values := slices.Clone(old)
	for i, f := range s.Fields {
		if d.below(each) > 0 {
			continue
		}
		switch f.Kind {
		case impl.GateNumber:
			was, _ := strconv.Atoi(values[i])
			values[i] = oneOf(d, "", count(d.below(4)), count(d.below(12)), count(was+1), count(max(was-1, 0)))
		case impl.GateWord:
			values[i] = oneOf(d, "", f.Words[0], f.Words[1])
		case impl.GateLink:
			values[i] = oneOf(d, "", "n100", "n101", "none")
			if there := ofKind(b, f.To); len(there) > 0 && d.below(4) > 0 {
				values[i] = oneOf(d, there...).Name
			}
		}
	}
	if len(values) > 0 && d.below(15) == 0 {
		values[d.below(len(values))] = oneOf(d, "1000", "A", "x", "99")
	}
	return values
}

// spoiledByDice turns a part of some asks wrong, or sets one that is not used.
func spoiledByDice(d *dice, a impl.GateAsk) impl.GateAsk {
	if d.below(12) > 0 {
		return a
	}
	switch d.below(12) {
	case 0:
		a.Who = oneOf(d, "", "No Name", long(17))
	case 1:
		a.Verb = oneOf(d, 0, 7, -1, 1+d.below(6))
	case 2:
		a.Kind = oneOf(d, "", "none", "rope", "barge")
	case 3:
		a.Name = oneOf(d, "", "No Name", long(16))
	case 4:
		a.Team = oneOf(d, "", "none", "a")
	case 5:
		a.Values = oneOf(d, nil, []string{}, []string{""}, make([]string, 3))
	case 6:
		a.Holds = oneOf(d, nil, []string{}, names(3), names(4), []string{"b", "a"})
	case 7:
		a.Seen = oneOf(d, -1, 0, 1)
	case 8:
		a.Hold = oneOf(d, "", "n100", "H")
	case 9:
		a.To = oneOf(d, "", "bob", "Bob")
	case 10:
		a.Rule = oneOf(d, impl.GateRule{}, openRule(), rule(verbs(6), "", "", ""), rule(nil, "", "", "b"), rule(nil, "k", "", ""))
	case 11:
		a.Number = oneOf(d, -1, 0, 1)
	}
	return a
}
