package tests

import (
	"slices"
	"testing"

	"loop.example/wharfhall/impl"
)

// actCase is all that StewApply is given.
type actCase struct {
	book impl.StewBook
	act  impl.StewAct
}

// actFault turns a case that is done into one that is not, without making up for another fault.
type actFault struct {
	code  int
	spoil func(c *actCase)
}

func webOf(c *actCase) *impl.StewService {
	return &c.book.Services[stewPlaceByHand(c.book, "web")]
}

// wholeCase ends, scales and creates; it is done.
func wholeCase() actCase {
	a := webScale(4, 1)
	a.Ends, a.Create = seenEnds(1, 5), 3
	return actCase{book: fleetBook(), act: a}
}

// dropCase is done, too.
func dropCase() actCase {
	return actCase{book: fleetBook(), act: impl.StewAct{Service: "void", Seen: 52, Drop: true}}
}

// crowd fills a book up with copies of a service behind all others.
func crowd(c *actCase) {
	c.book.Services = append(c.book.Services, plainService("zz"))
	c.book.Services[len(c.book.Services)-1].Next = impl.StewMaxCopies + 1
	for number := 1; len(c.book.Copies) < impl.StewMaxCopies; number++ {
		c.book.Copies = append(c.book.Copies, waitingCopy("zz", number))
	}
}

func actBookFaults() []actFault {
	return []actFault{
		{1, func(c *actCase) { c.book.Services[0].Image = 0 }},
		{1, func(c *actCase) { c.book.Copies[0].Version = 0 }},
		{1, func(c *actCase) { c.book.Berths = c.book.Berths[1:] }},
		{3, func(c *actCase) { c.act.Service = "none" }},
		{4, func(c *actCase) { c.act.Seen-- }},
		{7, func(c *actCase) { c.book.Now = impl.StewMaxNumber }},
	}
}

func wholeFaults() []actFault {
	return append(actBookFaults(),
		actFault{2, func(c *actCase) { c.act.Create = impl.StewMaxWant + impl.StewMaxSpare + 1 }},
		actFault{2, func(c *actCase) { c.act.Create = -1 }},
		actFault{2, func(c *actCase) { c.act.Want = impl.StewMaxWant + 1 }},
		actFault{2, func(c *actCase) { c.act.Cool = impl.StewCool + 1 }},
		actFault{2, func(c *actCase) { c.act.Scale = false }},
		actFault{2, func(c *actCase) { c.act.Drop = true }},
		actFault{2, func(c *actCase) { slices.Reverse(c.act.Ends) }},
		actFault{3, func(c *actCase) { c.act.Ends = append(c.act.Ends, impl.StewEnd{Number: 99, Seen: 15}) }},
		actFault{4, func(c *actCase) { webOf(c).Version++ }},
		actFault{4, func(c *actCase) { c.act.Ends[0].Seen++ }},
		actFault{4, func(c *actCase) { c.act.Ends[1].Seen-- }},
		actFault{5, func(c *actCase) { webOf(c).Down = 0 }},
		actFault{5, func(c *actCase) { c.book.Copies[fleetWebFirst+3].Ending = true }},
		actFault{6, func(c *actCase) { webOf(c).Most = 3 }},
		actFault{6, func(c *actCase) { webOf(c).Least = 5 }},
		actFault{6, func(c *actCase) { webOf(c).Over = 1 }},
		actFault{7, func(c *actCase) { webOf(c).Next = impl.StewMaxNumber }},
		actFault{7, crowd},
	)
}

func dropFaults() []actFault {
	return append(actBookFaults(),
		actFault{2, func(c *actCase) { c.act.Create = 1 }},
		actFault{2, func(c *actCase) { c.act.Ends = seenEnds(1) }},
		actFault{2, func(c *actCase) { c.act.Want = 1 }},
		actFault{2, func(c *actCase) { c.act.Scale = true }},
		actFault{4, func(c *actCase) { c.book.Services[fleetVoid].Version++ }},
		actFault{6, func(c *actCase) { c.book.Services[fleetVoid].Gone = false }},
		actFault{6, func(c *actCase) { c.book.Copies = slices.Insert(c.book.Copies, fleetWebFirst, waitingCopy("void", 1)) }},
	)
}

func eachActCase(f func(what string, make func() actCase, faults []actFault)) {
	f("whole", wholeCase, wholeFaults())
	f("drop", dropCase, dropFaults())
}

func TestEachCodeOfAnAct(t *testing.T) {
	eachActCase(func(what string, make func() actCase, faults []actFault) {
		c := make()
		wantApplied(t, what, c.book, c.act, 0)
		for i, f := range faults {
			c := make()
			f.spoil(&c)
			wantApplied(t, what+", fault "+count(i), c.book, c.act, f.code)
		}
	})
}

// Where two things stand against an act, the code that is listed first is told.
func TestTheFirstCodeOfAnActIsTold(t *testing.T) {
	eachActCase(func(what string, make func() actCase, faults []actFault) {
		for i, f := range faults {
			for j, g := range faults {
				if i == j || f.code == g.code {
					continue
				}
				c := make()
				f.spoil(&c)
				g.spoil(&c)
				wantApplied(t, what+", faults "+count(i)+" and "+count(j), c.book, c.act, min(f.code, g.code))
			}
		}
	})
}

// Of one that is Gone all may end; that it may have no more copies comes behind what is late.
func TestCodesOfOneThatIsGone(t *testing.T) {
	c := wholeCase()
	webOf(&c).Gone = true
	wantApplied(t, "Gone", c.book, c.act, 6)
	c.act.Ends[1].Seen++
	wantApplied(t, "Gone and late", c.book, c.act, 4)
	c = wholeCase()
	webOf(&c).Gone, webOf(&c).Down = true, 0
	wantApplied(t, "Gone, and none may be down", c.book, c.act, 6)
	c.book.Now = impl.StewMaxNumber
	wantApplied(t, "Gone, and no version is left", c.book, c.act, 6)
	c.book.Copies[fleetWebFirst+3].Ending = true
	wantApplied(t, "Gone, and one ends already", c.book, c.act, 5)
}
