package tests

import (
	"testing"

	"loop.example/wharfhall/impl"
)

// passCase is all that GatePass is given but the law.
type passCase struct {
	book impl.GateBook
	door string
	ask  impl.GateAsk
}

// passFault turns a case that is done into one that is refused, without making up for another fault.
type passFault struct {
	said  impl.GateSaid
	spoil func(c *passCase)
}

// commonFaults may be met with every verb.
func commonFaults(use func(c *passCase)) []passFault {
	return []passFault{
		{impl.GateSaid{Code: 1}, func(c *passCase) { c.door = "No Door" }},
		{impl.GateSaid{Code: 1}, func(c *passCase) { c.book.Tick = -1 }},
		{impl.GateSaid{Code: 2}, use},
		{impl.GateSaid{Code: 4}, func(c *passCase) { c.ask.Who = "eve" }},
		{impl.GateSaid{Code: 11}, func(c *passCase) { c.book.Now = impl.GateMaxVersion }},
	}
}

func fullOfRopes(c *passCase) {
	for _, name := range names(impl.GateMaxObjects) {
		if len(c.book.Objects) < impl.GateMaxObjects {
			c.book.Objects = append(c.book.Objects, impl.GateObject{Kind: "rope", Name: "s" + name, Team: "mill", Version: 1})
		}
	}
}

func fullOfGrants(c *passCase) {
	c.book.Now = max(c.book.Now, 60)
	c.book.Given = 60
	for number := 30; len(c.book.Grants) < impl.GateMaxGrants; number++ {
		c.book.Grants = append(c.book.Grants, grant(number, "zoe", "", openRule()))
	}
}

func makeFaults() []passFault {
	return append(commonFaults(func(c *passCase) { c.ask.Number = 1 }),
		// The barge that is asked for stands there already, in a team that no ledger bounds.
		passFault{impl.GateSaid{Code: 3}, func(c *passCase) {
			o := barge("z", "mill", 1, "0", "0", "", "", "", "")
			c.book.Objects = append(c.book.Objects[:4:4], append([]impl.GateObject{o}, c.book.Objects[4:]...)...)
		}},
		passFault{impl.GateSaid{Code: 7, Place: 3}, func(c *passCase) { c.ask.Values[2], c.ask.Values[3] = "", "x" }},
		passFault{impl.GateSaid{Code: 9, Place: 4}, func(c *passCase) { c.ask.Values[4] = "q" }},
		passFault{impl.GateSaid{Code: 10, Place: 1}, func(c *passCase) { c.ask.Values[0] = "99" }},
		passFault{impl.GateSaid{Code: 11}, fullOfRopes},
	)
}

func changeFaults() []passFault {
	return append(commonFaults(func(c *passCase) { c.ask.Team = "dock" }),
		passFault{impl.GateSaid{Code: 3}, func(c *passCase) { c.ask.Name = "none" }},
		passFault{impl.GateSaid{Code: 5, Version: 20}, func(c *passCase) { c.ask.Seen = 19 }},
		passFault{impl.GateSaid{Code: 6}, func(c *passCase) { c.book.Objects[1].Ending = true }},
		passFault{impl.GateSaid{Code: 7, Place: 1}, func(c *passCase) { c.ask.Values[1] = "x" }},
		passFault{impl.GateSaid{Code: 8, Place: 2}, func(c *passCase) { c.ask.Values[2] = "blue" }},
		passFault{impl.GateSaid{Code: 9, Place: 5}, func(c *passCase) { c.ask.Values[5] = "none" }},
		passFault{impl.GateSaid{Code: 10, Place: 1}, func(c *passCase) { c.ask.Values[0] = "99" }},
	)
}

func endFaults() []passFault {
	return append(commonFaults(func(c *passCase) { c.ask.Hold = "h" }),
		passFault{impl.GateSaid{Code: 3}, func(c *passCase) { c.ask.Name = "none" }},
		passFault{impl.GateSaid{Code: 5, Version: 20}, func(c *passCase) { c.ask.Seen = 21 }},
		passFault{impl.GateSaid{Code: 6}, func(c *passCase) { c.book.Objects[1].Ending = true }},
	)
}

func letGoFaults() []passFault {
	return append(commonFaults(func(c *passCase) { c.ask.To = "bob" }),
		passFault{impl.GateSaid{Code: 3}, func(c *passCase) { c.ask.Name = "none" }},
		passFault{impl.GateSaid{Code: 11}, func(c *passCase) { c.ask.Hold = "none" }},
	)
}

func giveFaults() []passFault {
	return append(commonFaults(func(c *passCase) { c.ask.Number = 1 }),
		passFault{impl.GateSaid{Code: 11}, fullOfGrants},
	)
}

func takeFaults() []passFault {
	return append(commonFaults(func(c *passCase) { c.ask.Seen = 1 }),
		passFault{impl.GateSaid{Code: 3}, func(c *passCase) { c.ask.Number = 4 }},
	)
}

// codeCase is an ask that is done in passBook, with what may be turned wrong in it.
type codeCase struct {
	ask    impl.GateAsk
	faults []passFault
}

func codeCases() map[string]codeCase {
	return map[string]codeCase{
		"make":   {askMake("barge", "z", "dock", "1", "1", "red", "", "p", "a"), makeFaults()},
		"change": {seeing(askChange("barge", "b", "5", "1", "red", "9", "p", "a"), 20), changeFaults()},
		"end":    {askEnd("barge", "b"), endFaults()},
		"let go": {askLetGo("barge", "b", "tax"), letGoFaults()},
		"give":   {askGive("bob", rule(verbs(2), "barge", "", "")), giveFaults()},
		"take":   {askTake(8), takeFaults()},
	}
}

// spoiled is the case with a part of its faults, and what the least of their codes that counts says.
func (f codeCase) spoiled(part int, counts func(code int) bool) (passCase, impl.GateSaid) {
	c := passCase{book: passBook(), door: "d", ask: withRoom(f.ask)}
	var least impl.GateSaid
	for i, fault := range f.faults {
		if part>>i&1 == 0 {
			continue
		}
		fault.spoil(&c)
		if counts(fault.said.Code) && (least.Code == 0 || fault.said.Code < least.Code) {
			least = fault.said
		}
	}
	return c, least
}

func anyCode(code int) bool {
	return true
}

// The order of the codes, with each two that would do, and with any more of them.
func TestTheFirstCodeIsTold(t *testing.T) {
	for what, f := range codeCases() {
		for part := range 1 << len(f.faults) {
			c, want := f.spoiled(part, anyCode)
			if want.Code == 0 {
				want.Version = 21
			}
			before := bookCopy(c.book)
			got, said := impl.GatePass(passLaw(), c.book, c.door, c.ask)
			if said != want {
				t.Errorf("%s, faults %b: %+v, not %+v", what, part, said, want)
			}
			if want.Code > 2 && !sameBook(got, before) || want.Code > 0 && want.Code < 3 && !sameBook(got, impl.GateBook{}) {
				t.Errorf("%s, faults %b: %+v, and the book is %+v", what, part, said, got)
			}
		}
	}
}
