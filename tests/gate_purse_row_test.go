package tests

import (
	"slices"
	"testing"

	"loop.example/wharfhall/impl"
)

const (
	drawCall = iota
	backCall
	tickCall
	boundCall
)

// purseCall is a call of one of the four functions.
type purseCall struct {
	which                int
	door, team, resource string
	amount               int
}

func (c purseCall) do(l impl.GateLaw, b impl.GateBook) (impl.GateBook, int) {
	switch c.which {
	case drawCall:
		return impl.GateDraw(l, b, c.door, c.team, c.resource, c.amount)
	case backCall:
		return impl.GateBack(l, b, c.door, c.team, c.resource)
	case tickCall:
		return impl.GateTick(l, b)
	}
	return impl.GateBound(l, b, c.team, c.resource, c.amount)
}

// byHand answers by the document's words, of a law and a book that are ok.
func (c purseCall) byHand(l impl.GateLaw, b impl.GateBook) (impl.GateBook, int) {
	out, code := bookCopy(b), 0
	switch c.which {
	case drawCall:
		code = c.drawByHand(&out)
	case backCall:
		code = c.backByHand(&out)
	case tickCall:
		code = tickByHand(&out)
	case boundCall:
		code = c.boundByHand(l, &out)
	}
	return out, code
}

func (c purseCall) ledgerAt(b *impl.GateBook) int {
	return slices.IndexFunc(b.Ledgers, func(g impl.GateLedger) bool { return g.Team == c.team && g.Resource == c.resource })
}

func (c purseCall) purseAt(b *impl.GateBook) int {
	return slices.IndexFunc(b.Purses, func(p impl.GatePurse) bool {
		return p.Door == c.door && p.Team == c.team && p.Resource == c.resource
	})
}

func (c purseCall) drawByHand(b *impl.GateBook) int {
	at, mine := c.ledgerAt(b), c.purseAt(b)
	switch {
	case c.door == "" || c.door == "No Door" || at < 0 || c.amount < 1 || c.amount > 1000000:
		return 2
	case b.Ledgers[at].Free < c.amount:
		return 3
	case mine < 0 && len(b.Purses) == 24:
		return 4
	case mine < 0:
		mine = 0
		for mine < len(b.Purses) && purseAhead(b.Purses[mine], purse(c.door, c.team, c.resource, 0, 0)) {
			mine++
		}
		b.Purses = slices.Insert(b.Purses, mine, purse(c.door, c.team, c.resource, 0, 0))
	}
	b.Ledgers[at].Free -= c.amount
	b.Purses[mine].Amount += c.amount
	b.Purses[mine].Until = b.Tick + 10
	return 0
}

// purseAhead orders by a text of all three, as no name has a blank.
func purseAhead(a, b impl.GatePurse) bool {
	return a.Door+" "+a.Team+" "+a.Resource < b.Door+" "+b.Team+" "+b.Resource
}

func (c purseCall) backByHand(b *impl.GateBook) int {
	mine := c.purseAt(b)
	if mine < 0 {
		return 2
	}
	b.Ledgers[c.ledgerAt(b)].Free += b.Purses[mine].Amount
	b.Purses = slices.Delete(b.Purses, mine, mine+1)
	return 0
}

func tickByHand(b *impl.GateBook) int {
	if b.Tick == 1000000 {
		return 2
	}
	b.Tick++
	for i := len(b.Purses) - 1; i >= 0; i-- {
		if p := b.Purses[i]; p.Until < b.Tick {
			purseCall{door: p.Door, team: p.Team, resource: p.Resource}.backByHand(b)
		}
	}
	return 0
}

func (c purseCall) boundByHand(l impl.GateLaw, b *impl.GateBook) int {
	known := slices.ContainsFunc(l.Teams, func(x impl.GateTeam) bool { return x.Name == c.team })
	if !known || c.resource == "" || c.resource == "No Name" || c.amount < 0 || c.amount > 1000000 {
		return 2
	}
	g := ledger(c.team, c.resource, c.amount, 0)
	g.Free = g.Most - usedByHand(l, *b, g.Team, g.Resource) - drawnByHand(*b, g)
	at := c.ledgerAt(b)
	switch {
	case g.Free < 0:
		return 3
	case at >= 0:
		b.Ledgers[at] = g
		return 0
	case len(b.Ledgers) == 10:
		return 4
	}
	b.Ledgers = append(b.Ledgers, g)
	slices.SortFunc(b.Ledgers, func(x, y impl.GateLedger) int {
		if x.Team+" "+x.Resource < y.Team+" "+y.Resource {
			return -1
		}
		return 1
	})
	return 0
}

// diceCall is mostly of what there is, with an amount that is near what decides. Those who are
// greedy draw and bind alone, so that there come to be as many purses and ledgers as may be.
func diceCall(d *dice, greedy bool, l impl.GateLaw, b impl.GateBook) purseCall {
	c := purseCall{which: oneOf(d, drawCall, drawCall, backCall, tickCall, boundCall)}
	if greedy {
		c.which = oneOf(d, drawCall, drawCall, boundCall)
	}
	c.door = oneOf(d, diceDoors...)
	c.team, c.resource = oneOf(d, l.Teams...).Name, oneOf(d, diceResources...)
	if len(b.Ledgers) > 0 && d.below(3) > 0 {
		g := oneOf(d, b.Ledgers...)
		c.team, c.resource = g.Team, g.Resource
		c.amount = oneOf(d, g.Free, g.Free+1, g.Most, g.Most+90, g.Most-g.Free, g.Most-g.Free-1)
	}
	if c.amount < 1 || d.below(2) == 0 {
		c.amount = 1 + d.below(9)
	}
	if greedy && d.below(2) == 0 {
		c.amount = 1
	}
	switch d.below(30) {
	case 0:
		c.door = oneOf(d, "", "No Door")
	case 1:
		c.team = oneOf(d, "", "none", "No Team")
	case 2:
		c.resource = oneOf(d, "", "No Name")
	case 3:
		c.amount = oneOf(d, 0, -1, 1000000, 1000001)
	case 4:
		c.amount = usedByHand(l, b, c.team, c.resource) + d.below(3) - 1
	}
	return c
}

// Promise 5, through many calls in a row, each of which does what the document says.
func TestBoundsHoldBehindAnyCalls(t *testing.T) {
	t.Parallel()
	d := &dice{state: 2024}
	seen := map[[2]int]int{}
	for run := range 80 {
		l := diceLaw(d)
		b := diceBook(d, l)
		for range 120 {
			c := diceCall(d, run%4 == 0, l, b)
			got, code := c.do(l, b)
			want, wantCode := c.byHand(l, b)
			seen[[2]int{c.which, code}]++
			if code != wantCode || !sameBook(got, want) {
				t.Fatalf("%+v in %+v: %d, %+v,\nnot %d, %+v", c, b, code, got, wantCode, want)
			}
			if code != 0 && !sameBook(got, b) {
				t.Fatalf("%+v in %+v: %d, and the book is %+v", c, b, code, got)
			}
			if !boundsByHand(l, got) || !impl.GateBookOk(l, got) {
				t.Fatalf("%+v in %+v: %+v", c, b, got)
			}
			b = got
		}
	}
	for which, most := range map[int]int{drawCall: 4, backCall: 2, tickCall: 2, boundCall: 4} {
		for code := range most + 1 {
			if code != 1 && seen[[2]int{which, code}] < 10 {
				t.Errorf("the dice showed too little: call %d has told %d %d times", which, code, seen[[2]int{which, code}])
			}
		}
	}
}

// Promise 6: behind the last draw a purse is there for GatePurseLife ticks, and behind one more it
// is back whole, whatever other doors do.
func TestAPurseComesBackThoughItsDoorIsDead(t *testing.T) {
	d := &dice{state: 99}
	for range 150 {
		l := diceLaw(d)
		b := diceBook(d, l)
		b.Tick, b.Purses = d.below(1000), nil
		b.Ledgers = []impl.GateLedger{ledger(oneOf(d, l.Teams...).Name, oneOf(d, diceResources...), 0, 50)}
		g := &b.Ledgers[0]
		g.Most = g.Free + usedByHand(l, b, g.Team, g.Resource)
		dead := purseCall{which: drawCall, door: "dead", team: g.Team, resource: g.Resource, amount: 5 + d.below(5)}
		for range 1 + d.below(3) {
			b = mustDo(t, l, b, purseCall{which: tickCall})
			b = mustDo(t, l, b, dead)
		}
		last := b.Tick
		for b.Tick < last+impl.GatePurseLife+1 {
			if at := dead.purseAt(&b); at < 0 || b.Purses[at].Amount < dead.amount || b.Purses[at].Until != last+impl.GatePurseLife {
				t.Fatalf("%+v has gone early: %+v", dead, b)
			}
			other := diceCall(d, false, l, b)
			other.team, other.resource, other.amount = dead.team, dead.resource, 1
			if other.which != boundCall {
				b, _ = other.do(l, b)
			}
		}
		if dead.purseAt(&b) >= 0 || !boundsByHand(l, b) {
			t.Fatalf("%+v has not come back: %+v", dead, b)
		}
		for i := 0; i <= impl.GatePurseLife; i++ {
			b = mustDo(t, l, b, purseCall{which: tickCall})
		}
		if free := b.Ledgers[0].Most - usedByHand(l, b, dead.team, dead.resource); len(b.Purses) != 0 || b.Ledgers[0].Free != free {
			t.Fatalf("not all has come back: %+v", b)
		}
	}
}

// Promise 6: what is given back is back at once, whole.
func TestAPurseThatIsGivenBackIsBackAtOnce(t *testing.T) {
	d := &dice{state: 7}
	for range 400 {
		l := diceLaw(d)
		b := diceBook(d, l)
		for _, p := range b.Purses {
			c := purseCall{which: backCall, door: p.Door, team: p.Team, resource: p.Resource}
			free := b.Ledgers[c.ledgerAt(&b)].Free
			b = mustDo(t, l, b, c)
			if c.purseAt(&b) >= 0 || b.Ledgers[c.ledgerAt(&b)].Free != free+p.Amount {
				t.Fatalf("%+v has not come back whole: %+v", p, b)
			}
		}
		for _, g := range b.Ledgers {
			if g.Free != g.Most-usedByHand(l, b, g.Team, g.Resource) {
				t.Fatalf("not all has come back: %+v", b)
			}
		}
	}
}

func mustDo(t *testing.T, l impl.GateLaw, b impl.GateBook, c purseCall) impl.GateBook {
	t.Helper()
	got, code := c.do(l, b)
	if code != 0 {
		t.Fatalf("%+v in %+v: %d", c, b, code)
	}
	return got
}
