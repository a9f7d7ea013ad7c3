package tests

import (
	"math/bits"
	"slices"
	"strconv"

	"loop.example/wharfhall/impl"
)

// placeSet is a set of places of objects, a bit each.
type placeSet uint64

func (s placeSet) has(place int) bool {
	return s>>place&1 == 1
}

func (s placeSet) with(place int) placeSet {
	return s | 1<<place
}

func (s placeSet) list() []int {
	var out []int
	for ; s != 0; s &= s - 1 {
		out = append(out, bits.TrailingZeros64(uint64(s)))
	}
	return out
}

// handTie is a link that is set: from which place to which one, by which field and in which role.
type handTie struct {
	from, to, field, role int
}

// tiesByHand tells the links of all objects; the place of what is not there is -1.
func tiesByHand(l impl.GateLaw, b impl.GateBook) []handTie {
	var out []handTie
	for from, o := range b.Objects {
		for _, s := range l.Shapes {
			for field, f := range s.Fields {
				if s.Kind != o.Kind || f.Kind != impl.GateLink || o.Values[field] == "" {
					continue
				}
				to := slices.IndexFunc(b.Objects, func(x impl.GateObject) bool { return x.Kind == f.To && x.Name == o.Values[field] })
				out = append(out, handTie{from: from, to: to, field: field, role: f.Role})
			}
		}
	}
	return out
}

func endingByHand(b impl.GateBook) placeSet {
	var set placeSet
	for i, o := range b.Objects {
		if o.Ending {
			set = set.with(i)
		}
	}
	return set
}

func markByHand(l impl.GateLaw, b impl.GateBook) placeSet {
	var set placeSet
	for _, tie := range tiesByHand(l, b) {
		if tie.role == impl.GateOwned && b.Objects[tie.to].Ending && !b.Objects[tie.from].Ending {
			set = set.with(tie.from)
		}
	}
	return set
}

// closedByHand says whether all that hold one of a set, or are owned by one of it, are in it.
func closedByHand(ties []handTie, set placeSet) bool {
	return !slices.ContainsFunc(ties, func(tie handTie) bool {
		return tie.role != impl.GateLeans && set.has(tie.to) && !set.has(tie.from)
	})
}

// withoutHolds is what is left of a set without the objects that have Holds.
func withoutHolds(b impl.GateBook, set placeSet) placeSet {
	for i, o := range b.Objects {
		if len(o.Holds) > 0 {
			set &^= 1 << i
		}
	}
	return set
}

// greatestByHand takes out one by one what can't be in such a part.
func greatestByHand(l impl.GateLaw, b impl.GateBook, among placeSet) placeSet {
	ties, set := tiesByHand(l, b), withoutHolds(b, among)
	for !closedByHand(ties, set) {
		for _, tie := range ties {
			if tie.role != impl.GateLeans && !set.has(tie.from) {
				set &^= 1 << tie.to
			}
		}
	}
	return set
}

// greatestByTrying asks of each part whether it is such a one, and puts together those that are.
func greatestByTrying(l impl.GateLaw, b impl.GateBook, among placeSet) placeSet {
	var all placeSet
	ties, most := tiesByHand(l, b), withoutHolds(b, among)
	for part := most; part != 0; part = (part - 1) & most {
		if closedByHand(ties, part) {
			all |= part
		}
	}
	return all
}

// followedByHand adds what one of the set owns, until there is no more.
func followedByHand(l impl.GateLaw, b impl.GateBook) placeSet {
	ties, set := tiesByHand(l, b), endingByHand(b)
	for range b.Objects {
		for _, tie := range ties {
			if tie.role == impl.GateOwned && set.has(tie.to) {
				set = set.with(tie.from)
			}
		}
	}
	return set
}

// sweepByHand answers by the document's words, of a law and a book that are ok.
func sweepByHand(l impl.GateLaw, b impl.GateBook) (impl.GateBook, int) {
	mark := markByHand(l, b)
	if mark == 0 && greatestByHand(l, b, endingByHand(b)) == 0 {
		return bookCopy(b), 2
	}
	out := bookCopy(b)
	for _, i := range mark.list() {
		out.Now++
		out.Objects[i].Ending, out.Objects[i].Version = true, out.Now
	}
	gone := greatestByHand(l, out, endingByHand(out))
	for _, i := range gone.list() {
		o := out.Objects[i]
		for j, g := range out.Ledgers {
			if underByHand(l, o.Team, g.Team) {
				out.Ledgers[j].Free += weighsByHand(l, o, g.Resource)
			}
		}
	}
	last := -1
	for _, tie := range tiesByHand(l, out) {
		if tie.role != impl.GateLeans || gone.has(tie.from) || !gone.has(tie.to) {
			continue
		}
		if tie.from != last {
			out.Now++
		}
		last = tie.from
		out.Objects[last].Version, out.Objects[last].Values[tie.field] = out.Now, ""
	}
	var left []impl.GateObject
	for i, o := range out.Objects {
		if !gone.has(i) {
			left = append(left, o)
		}
	}
	out.Objects = left
	if out.Now > 1000000 {
		return bookCopy(b), 3
	}
	return out, 0
}

// diceEndLaw is the law of ends with other teams.
func diceEndLaw(d *dice) impl.GateLaw {
	l := endLaw()
	l.Teams = someTeams(d)
	return l
}

// diceEndBook is an ok book of at most so many objects, by a law of diceEndLaw. How many links are set, how many
// objects are Ending and how many have Holds is drawn for each book, so that in some all goes and in some nothing.
func diceEndBook(d *dice, l impl.GateLaw, most int) impl.GateBook {
	b := impl.GateBook{Now: oneOf(d, 1+d.below(50), impl.GateMaxVersion-d.below(oneOf(d, 1, 3, most))), Tick: d.below(90)}
	b.Given = d.below(min(b.Now, 9) + 1)
	for n := 1; n <= min(b.Given, 2); n++ {
		b.Grants = append(b.Grants, grant(n, "ann", "", diceRule(d)))
	}
	n := 1 + d.below(most)
	quays := names(d.below(n + 1))
	ships := names(n - len(quays))
	linkOf, endingOf, holdOf := oneOf(d, 2, 4, 8), oneOf(d, 1, 2, 3, 6), oneOf(d, 2, 5, 20)
	for _, s := range []struct {
		kind string
		all  []string
	}{{"quay", quays}, {"ship", ships}} {
		for _, name := range s.all {
			o := linked(s.kind, name, nil)
			for i, f := range l.Shapes[slices.IndexFunc(l.Shapes, func(x impl.GateShape) bool { return x.Kind == s.kind })].Fields {
				to := map[string][]string{"quay": quays, "ship": ships}[f.To]
				if f.Kind == impl.GateNumber {
					o.Values[i] = strconv.Itoa(d.below(20))
				} else if len(to) > 0 && d.below(linkOf) == 0 {
					o.Values[i] = oneOf(d, to...)
				}
			}
			o.Team, o.Version, o.Ending = oneOf(d, l.Teams...).Name, 1+d.below(b.Now), d.below(endingOf) == 0
			if d.below(holdOf) == 0 {
				o.Holds = names(1 + d.below(impl.GateMaxHolds))
			}
			b.Objects = append(b.Objects, o)
		}
	}
	diceBounds(d, l, &b, []string{"quay", "ship", "tons"})
	return b
}
