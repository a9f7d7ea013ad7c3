package tests

import (
	"slices"
	"strings"
	"testing"

	"loop.example/wharfhall/impl"
)

// crewVersion is the version of the service in the crew's book; that of its copies is their Number and 10.
const crewVersion = 9

// crewBook is a valid book with one service, whose copies are told by words, with the Numbers from 1 on: W waits, S
// starts, R is ready, F failed; o is of an old image, d is on a berth that is to be drained, e is Ending.
func crewBook(want, down, over int, copies string) impl.StewBook {
	b := impl.StewBook{Now: 500, Berths: []impl.StewBerth{{Name: "a"}, {Name: "b", Drain: true}}}
	words := strings.Fields(copies)
	b.Services = []impl.StewService{{Name: "web", Version: crewVersion, Image: 2, Want: want, Down: down, Over: over, Next: len(words) + 1}}
	for i, word := range words {
		c := impl.StewCopy{Service: "web", Number: i + 1, Version: 11 + i, Image: 2, State: 1 + strings.IndexByte("WSRF", word[0])}
		if strings.Contains(word, "o") {
			c.Image = 1
		}
		if c.State != impl.StewWaiting {
			c.Berth = "a"
		}
		if strings.Contains(word, "d") {
			c.Berth = "b"
		}
		c.Ending = strings.Contains(word, "e")
		b.Copies = append(b.Copies, c)
	}
	return b
}

// goneCrew is the crew's book with a service that is Gone.
func goneCrew(copies string) impl.StewBook {
	b := crewBook(2, 1, 1, copies)
	b.Services[0].Gone = true
	return b
}

// loadedCrew is a crew's book whose service follows a load, with a Per of 10.
func loadedCrew(load, least, most, want, cool int) impl.StewBook {
	b := crewBook(want, 1, 1, "R R")
	s := &b.Services[0]
	s.Per, s.Load, s.Least, s.Most, s.Cool = 10, load, least, most, cool
	return b
}

// askTold writes what an act asks for: new copies, copies that end, a Want with its Cool, or a drop.
func askTold(a impl.StewAct) string {
	out := ""
	if a.Create != 0 {
		out += "+" + count(a.Create)
	}
	for _, e := range a.Ends {
		out += "-" + count(e.Number)
	}
	if a.Scale {
		out += "=" + count(a.Want) + "/" + count(a.Cool)
	} else if a.Want != 0 || a.Cool != 0 {
		out += "no Scale"
	}
	if a.Drop {
		out += "drop"
	}
	return out
}

// asksTold writes acts with their services, and with the versions that were seen.
func asksTold(acts []impl.StewAct) string {
	var out []string
	for _, a := range acts {
		told := a.Service + "@" + count(a.Seen) + " " + askTold(a)
		for _, e := range a.Ends {
			told += " @" + count(e.Seen)
		}
		out = append(out, told)
	}
	return strings.Join(out, "; ")
}

func sameAct(a, b impl.StewAct) bool {
	return a.Service == b.Service && a.Seen == b.Seen && a.Create == b.Create && a.Want == b.Want && a.Cool == b.Cool &&
		a.Scale == b.Scale && slices.Equal(a.Ends, b.Ends) && a.Drop == b.Drop
}

// wantAsked asks for what the document's words lead to, and for promise 15.
func wantAsked(t *testing.T, what string, kind int, view impl.StewBook) []impl.StewAct {
	t.Helper()
	got, want := impl.StewAsk(kind, view), stewardByHand(kind, view)
	if !slices.EqualFunc(got, want, sameAct) {
		t.Errorf("%s: StewAsk of %d in %s = %s, not %s", what, kind, stewTold(view), asksTold(got), asksTold(want))
	}
	for _, a := range got {
		if _, code := impl.StewApply(view, a); code != 0 && code != 7 {
			t.Errorf("%s: %d asks for %s in %s, which has the code %d", what, kind, actTold(a), stewTold(view), code)
		}
	}
	return got
}

// wantCrew asks for what a steward does for the one service of the crew's book.
func wantCrew(t *testing.T, what string, kind int, view impl.StewBook, want string) {
	t.Helper()
	wantValid(t, what, view, true)
	told := ""
	for _, a := range wantAsked(t, what, kind, view) {
		told += askTold(a)
	}
	if told != want {
		t.Errorf("%s: %d asks for %q in %s, not for %q", what, kind, told, stewTold(view), want)
	}
}

// stewardByHand is what chapter 16 says.
func stewardByHand(kind int, view impl.StewBook) []impl.StewAct {
	if !validByHand(view) {
		return nil
	}
	var acts []impl.StewAct
	for _, s := range view.Services {
		a := impl.StewAct{Service: s.Name, Seen: s.Version}
		switch kind {
		case 1:
			counterByHand(view, s, &a)
		case 2:
			n := countByHand(view, s)
			if !s.Gone && n.Old > 0 && n.Live >= s.Want {
				replaceByHand(view, s, oldByHand, &a)
			}
		case 3:
			endsByHand(view, s, &a, func(c impl.StewCopy) bool { return c.State == 4 })
		case 4:
			scalerByHand(s, &a)
		case 5:
			sweeperByHand(view, s, &a)
		case 6:
			n := countByHand(view, s)
			if !s.Gone && n.Old == 0 && drainedByHand(view, s) > 0 && n.Live >= s.Want {
				replaceByHand(view, s, onDrainByHand, &a)
			}
		}
		if a.Create > 0 || len(a.Ends) > 0 || a.Scale || a.Drop {
			acts = append(acts, a)
		}
	}
	return acts
}

// copySort says of a copy, in a view, whether it is of a sort.
type copySort func(view impl.StewBook, s impl.StewService, c impl.StewCopy) bool

func oldByHand(view impl.StewBook, s impl.StewService, c impl.StewCopy) bool {
	return c.Image != s.Image
}

func onDrainByHand(view impl.StewBook, s impl.StewService, c impl.StewCopy) bool {
	return slices.Contains(view.Berths, impl.StewBerth{Name: c.Berth, Drain: true})
}

// drainedByHand is B.
func drainedByHand(view impl.StewBook, s impl.StewService) int {
	n := 0
	for _, c := range view.Copies {
		if c.Service == s.Name && !c.Ending && onDrainByHand(view, s, c) {
			n++
		}
	}
	return n
}

// firstToEndByHand is the first to end of the Live copies of a sort. What tells them apart first weighs more than all
// behind it together.
func firstToEndByHand(view impl.StewBook, s impl.StewService, is copySort) (impl.StewCopy, bool) {
	var first impl.StewCopy
	most := -1
	for _, c := range view.Copies {
		if c.Service != s.Name || c.Ending || !is(view, s, c) {
			continue
		}
		weight := c.Number
		if c.State != 3 {
			weight += 40000000
		}
		if oldByHand(view, s, c) {
			weight += 20000000
		}
		if onDrainByHand(view, s, c) {
			weight += 10000000
		}
		if weight > most {
			first, most = c, weight
		}
	}
	return first, most >= 0
}

func counterByHand(view impl.StewBook, s impl.StewService, a *impl.StewAct) {
	live, old, drained := countByHand(view, s).Live, countByHand(view, s).Old, drainedByHand(view, s)
	if s.Gone {
		return
	}
	if live < s.Want {
		a.Create = s.Want - live
	} else if live > s.Want && (old == 0 && drained == 0 || live > s.Want+s.Over) {
		c, _ := firstToEndByHand(view, s, func(impl.StewBook, impl.StewService, impl.StewCopy) bool { return true })
		if mayEndByHand(view, s.Name, c.Number) {
			a.Ends = []impl.StewEnd{{Number: c.Number, Seen: c.Version}}
		}
	}
}

// replaceByHand is what the waver and the drainer do where they do something.
func replaceByHand(view impl.StewBook, s impl.StewService, is copySort, a *impl.StewAct) {
	if countByHand(view, s).Live < s.Want+s.Over {
		a.Create = 1
		return
	}
	may := func(view impl.StewBook, s impl.StewService, c impl.StewCopy) bool {
		return is(view, s, c) && mayEndByHand(view, s.Name, c.Number)
	}
	if c, there := firstToEndByHand(view, s, may); there {
		a.Ends = []impl.StewEnd{{Number: c.Number, Seen: c.Version}}
	}
}

func endsByHand(view impl.StewBook, s impl.StewService, a *impl.StewAct, is func(c impl.StewCopy) bool) {
	for _, c := range view.Copies {
		if c.Service == s.Name && !c.Ending && is(c) {
			a.Ends = append(a.Ends, impl.StewEnd{Number: c.Number, Seen: c.Version})
		}
	}
}

// dueByHand is D.
func dueByHand(s impl.StewService) int {
	due := s.Load / s.Per
	if s.Load%s.Per != 0 {
		due++
	}
	if due < s.Least {
		due = s.Least
	}
	if due > s.Most {
		due = s.Most
	}
	return due
}

func scalerByHand(s impl.StewService, a *impl.StewAct) {
	if s.Gone || s.Per == 0 {
		return
	}
	put := func(want, cool int) { a.Scale, a.Want, a.Cool = true, want, cool }
	due := dueByHand(s)
	if s.Want < s.Least {
		put(s.Least, 0)
	} else if s.Want > s.Most {
		put(s.Most, 0)
	} else if due > s.Want {
		put(due, 0)
	} else if due < s.Want && s.Cool == 3 {
		put(s.Want-1, 0)
	} else if due < s.Want {
		put(s.Want, s.Cool+1)
	} else if s.Cool > 0 {
		put(s.Want, 0)
	}
}

func sweeperByHand(view impl.StewBook, s impl.StewService, a *impl.StewAct) {
	if !s.Gone {
		return
	}
	n := countByHand(view, s)
	if n.Live > 0 {
		endsByHand(view, s, a, func(impl.StewCopy) bool { return true })
	} else if n.Ending == 0 {
		a.Drop = true
	}
}
