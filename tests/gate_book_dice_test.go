package tests

import (
	"slices"
	"strconv"
	"testing"

	"loop.example/wharfhall/impl"
)

// What the dice draw books of; the resources have one that nothing weighs.
var (
	diceDoors     = []string{"d0", "d1", "d2", "d3", "d4", "d5"}
	diceResources = []string{"area", "crate", "pier", "stone", "tons", "wood"}
)

// diceLaw is the store's law with other teams.
func diceLaw(d *dice) impl.GateLaw {
	l := storeLaw()
	l.Teams = someTeams(d)
	return l
}

// someTeams are teams that are ok, at least one.
func someTeams(d *dice) []impl.GateTeam {
	for {
		if teams := diceYard(d); len(teams) > 0 {
			return teams
		}
	}
}

// diceObjects are objects that are as a book wants them, by a law of diceLaw.
func diceObjects(d *dice, l impl.GateLaw, now int) []impl.GateObject {
	var list []impl.GateObject
	piers, crates := names(d.below(4)), names(d.below(9))
	link := func(to []string) string {
		if len(to) == 0 {
			return ""
		}
		return oneOf(d, append(to, "")...)
	}
	number := func(most int) string { return strconv.Itoa(d.below(most + 1)) }
	for _, name := range crates {
		area := oneOf(d, "", number(50))
		mode := oneOf(d, "", "small", "big")
		if mode == "big" {
			area = "9"
		}
		list = append(list, crate(name, "", 0, number(20), number(9), area, mode, link(piers), link(crates)))
	}
	for _, name := range piers {
		values := []string{strconv.Itoa(1 + d.below(9)), oneOf(d, "", number(9)), oneOf(d, "", number(9)), link(piers)}
		list = append(list, impl.GateObject{Kind: "pier", Name: name, Values: values})
	}
	for _, name := range names(d.below(4)) {
		list = append(list, stone(name, ""))
	}
	for i := range list {
		list[i].Team = oneOf(d, l.Teams...).Name
		list[i].Version = 1 + d.below(now)
		list[i].Ending = d.below(4) == 0
		list[i].Holds = names(d.below(impl.GateMaxHolds + 1))
	}
	return list
}

// diceBook is an ok book by a law of diceLaw.
func diceBook(d *dice, l impl.GateLaw) impl.GateBook {
	b := impl.GateBook{Now: 1 + d.below(50), Tick: oneOf(d, 0, d.below(90), impl.GateMaxNumber-d.below(30))}
	b.Given = d.below(b.Now + 1)
	b.Objects = diceObjects(d, l, b.Now)
	for n := 1; n <= min(b.Given, 5); n++ {
		b.Grants = append(b.Grants, grant(n, oneOf(d, "ann", "bob"), oneOf(d, "", "ann"), diceRule(d)))
	}
	diceBounds(d, l, &b, diceResources)
	return b
}

// diceBounds gives a book ledgers over what its objects are, and purses of some doors.
func diceBounds(d *dice, l impl.GateLaw, b *impl.GateBook, resources []string) {
	for _, team := range l.Teams {
		for _, resource := range resources {
			if d.below(4) == 0 && len(b.Ledgers) < impl.GateMaxLedgers {
				b.Ledgers = append(b.Ledgers, ledger(team.Name, resource, 0, d.below(12)))
			}
		}
	}
	for _, door := range diceDoors[:d.below(4)] {
		for _, g := range b.Ledgers {
			if d.below(2) == 0 && len(b.Purses) < impl.GateMaxPurses {
				b.Purses = append(b.Purses, purse(door, g.Team, g.Resource, 1+d.below(9), b.Tick+d.below(impl.GatePurseLife+1)))
			}
		}
	}
	for i, g := range b.Ledgers {
		b.Ledgers[i].Most = g.Free + usedByHand(l, *b, g.Team, g.Resource) + drawnByHand(*b, g)
	}
}

// weighsByHand counts as the document says it, of shapes that are ok and an object that has its values.
func weighsByHand(l impl.GateLaw, o impl.GateObject, resource string) int {
	sum := 0
	if o.Kind == resource {
		sum = 1
	}
	for _, s := range l.Shapes {
		for i, f := range s.Fields {
			if s.Kind == o.Kind && f.Kind == impl.GateNumber && f.Weighs == resource && o.Values[i] != "" {
				n, _ := strconv.Atoi(o.Values[i])
				sum += n
			}
		}
	}
	return sum
}

// underByHand is of teams that are ok.
func underByHand(l impl.GateLaw, a, b string) bool {
	over := map[string]string{}
	for _, team := range l.Teams {
		over[team.Name] = team.Over
	}
	for ; a != ""; a = over[a] {
		if a == b {
			return true
		}
	}
	return false
}

func usedByHand(l impl.GateLaw, b impl.GateBook, team, resource string) int {
	sum := 0
	for _, o := range b.Objects {
		if underByHand(l, o.Team, team) {
			sum += weighsByHand(l, o, resource)
		}
	}
	return sum
}

func drawnByHand(b impl.GateBook, g impl.GateLedger) int {
	sum := 0
	for _, p := range b.Purses {
		if p.Team == g.Team && p.Resource == g.Resource {
			sum += p.Amount
		}
	}
	return sum
}

// boundsByHand is what promise 5 says of a book.
func boundsByHand(l impl.GateLaw, b impl.GateBook) bool {
	for _, g := range b.Ledgers {
		used := usedByHand(l, b, g.Team, g.Resource)
		if used+drawnByHand(b, g)+g.Free != g.Most || used > g.Most {
			return false
		}
	}
	return true
}

func TestDrawnBooksAreOk(t *testing.T) {
	d := &dice{state: 41}
	for range 1500 {
		l := diceLaw(d)
		b := diceBook(d, l)
		wantBook(t, "drawn", l, b, true)
		for _, team := range append(l.Teams, impl.GateTeam{Name: "none"}) {
			for _, resource := range diceResources {
				wantUsed(t, l, b, team.Name, resource, usedByHand(l, b, team.Name, resource))
			}
		}
		for _, o := range b.Objects {
			for _, resource := range diceResources {
				wantWeighs(t, l, o, resource, weighsByHand(l, o, resource))
			}
		}
	}
}

// numbersByHand asks for the numbers of a book, of what stands in each list.
func numbersByHand(b impl.GateBook) bool {
	ok := 0 <= b.Now && b.Now <= 1000000 && 0 <= b.Tick && b.Tick <= 1000000 && 0 <= b.Given && b.Given <= b.Now
	for _, o := range b.Objects {
		ok = ok && 0 < o.Version && o.Version <= b.Now
	}
	for i, g := range b.Grants {
		ok = ok && 0 < g.Number && g.Number <= b.Given && (i == 0 || b.Grants[i-1].Number < g.Number)
	}
	for _, g := range b.Ledgers {
		ok = ok && 0 <= g.Free && g.Free <= g.Most && g.Most <= 1000000
	}
	for _, p := range b.Purses {
		ok = ok && 0 < p.Amount && p.Amount <= 1000000 && b.Tick <= p.Until && p.Until <= b.Tick+10
	}
	return ok
}

// turnOneNumber sets one of the numbers of a book to another one, near it or at an end.
func turnOneNumber(d *dice, b *impl.GateBook) {
	numbers := []*int{&b.Now, &b.Tick, &b.Given}
	for i := range b.Objects {
		numbers = append(numbers, &b.Objects[i].Version)
	}
	for i := range b.Grants {
		numbers = append(numbers, &b.Grants[i].Number)
	}
	for i := range b.Ledgers {
		numbers = append(numbers, &b.Ledgers[i].Most, &b.Ledgers[i].Free)
	}
	for i := range b.Purses {
		numbers = append(numbers, &b.Purses[i].Amount, &b.Purses[i].Until)
	}
	n := oneOf(d, numbers...)
	*n = oneOf(d, *n-1, *n+1, *n-2, *n+2, 0, -1, 1, b.Now, b.Now+1, b.Given, b.Given+1, b.Tick, b.Tick-1, b.Tick+10, b.Tick+11, 1000000, 1000001)
}

// A number that is turned leaves a book ok just where the document's words still hold of it.
func TestDrawnBooksWithANumberTurned(t *testing.T) {
	t.Parallel()
	d := &dice{state: 77}
	seen := map[bool]int{}
	for range 12000 {
		l := diceLaw(d)
		b := diceBook(d, l)
		turnOneNumber(d, &b)
		want := numbersByHand(b) && boundsByHand(l, b)
		seen[want]++
		wantBook(t, "turned", l, b, want)
	}
	if seen[true] < 1000 || seen[false] < 1000 {
		t.Errorf("the dice showed too little: %v", seen)
	}
}

// Two things of a list that stand in the wrong order, or are the same, make a book that is not ok.
func TestDrawnBooksTurnedAround(t *testing.T) {
	d := &dice{state: 5}
	for range 1500 {
		l := diceLaw(d)
		b := diceBook(d, l)
		for _, turned := range []impl.GateBook{
			{Objects: turnedAround(d, b.Objects), Grants: b.Grants, Ledgers: b.Ledgers, Purses: b.Purses},
			{Objects: b.Objects, Grants: turnedAround(d, b.Grants), Ledgers: b.Ledgers, Purses: b.Purses},
			{Objects: b.Objects, Grants: b.Grants, Ledgers: turnedAround(d, b.Ledgers), Purses: b.Purses},
			{Objects: b.Objects, Grants: b.Grants, Ledgers: b.Ledgers, Purses: turnedAround(d, b.Purses)},
		} {
			turned.Now, turned.Tick, turned.Given = b.Now, b.Tick, b.Given
			wantBook(t, "turned around", l, turned, sameBook(turned, b))
		}
	}
}

func turnedAround[T any](d *dice, list []T) []T {
	out := slices.Clone(list)
	if len(out) < 2 {
		return out
	}
	i := d.below(len(out) - 1)
	out[i], out[i+1] = out[i+1], out[i]
	return out
}
