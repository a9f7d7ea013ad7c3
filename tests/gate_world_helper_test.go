package tests

import (
	"slices"
	"testing"

	"loop.example/wharfhall/impl"
)

// The places of passWorld's doors, and of one that there is not.
const (
	busyDoor = iota
	lateDoor
	deadDoor
	noDoor
)

// passWorld is ok by passLaw. Its doors are d, which has seen the book and has slips; k, which has an older view and
// no slips; and m, which is not Up.
func passWorld() impl.GateWorld {
	older := passBook()
	older.Now, older.Given, older.Grants = 9, 1, older.Grants[:1]
	older.Objects = older.Objects[6:]
	return impl.GateWorld{Book: passBook(), Doors: []impl.GateDoor{
		{Name: "d", Up: true, View: passBook(), Slips: slipRow("make", "change", "end", "let go")},
		{Name: "k", Up: true, View: balanced(passLaw(), older)},
		{Name: "m", View: balanced(passLaw(), older)},
	}}
}

// slipRow are good slips by their verbs.
func slipRow(verbs ...string) []impl.GateSlip {
	var row []impl.GateSlip
	for _, v := range verbs {
		row = append(row, goodSlips()[v])
	}
	return row
}

// manyDoors are n doors that are Up, with no slips and an empty view.
func manyDoors(n int) []impl.GateDoor {
	list := make([]impl.GateDoor, n)
	for i, name := range names(n) {
		list[i] = impl.GateDoor{Name: name, Up: true}
	}
	return list
}

// goodEvents are one event of each kind, each told Code 0 in passWorld.
func goodEvents() map[string]impl.GateEvent {
	return map[string]impl.GateEvent{
		"look":    {Kind: impl.GateLook, Door: lateDoor},
		"asks":    {Kind: impl.GateAsks, Door: busyDoor, Ask: goodAsks()["give"]},
		"commits": {Kind: impl.GateCommits, Door: busyDoor, At: 1},
		"loses":   {Kind: impl.GateLoses, Door: busyDoor, At: 2},
		"draws":   {Kind: impl.GateDraws, Door: lateDoor, Team: "mill", Resource: "tons", Amount: 3},
		"backs":   {Kind: impl.GateBacks, Door: lateDoor, Team: "dock", Resource: "tons"},
		"ticks":   {Kind: impl.GateTicks},
		"dies":    {Kind: impl.GateDies, Door: busyDoor},
		"rises":   {Kind: impl.GateRises, Door: deadDoor},
		"sweeps":  {Kind: impl.GateSweeps},
		"binds":   {Kind: impl.GateBinds, Team: "mill", Resource: "rope", Amount: 7},
	}
}

// goodWorld is passWorld with something for a sweep to take, which the slips do not rely on.
func goodWorld() impl.GateWorld {
	w := passWorld()
	stand(&w.Book, ending(impl.GateObject{Kind: "rope", Name: "s", Team: "mill"}))
	return w
}

// turned is a world in which something is turned.
func turned(w impl.GateWorld, turn func(w *impl.GateWorld)) impl.GateWorld {
	w = worldCopy(w)
	turn(&w)
	return w
}

func sameDoor(a, b impl.GateDoor) bool {
	return a.Name == b.Name && a.Up == b.Up && sameBook(a.View, b.View) && slices.EqualFunc(a.Slips, b.Slips, sameSlip)
}

func sameWorld(a, b impl.GateWorld) bool {
	return sameBook(a.Book, b.Book) && slices.EqualFunc(a.Doors, b.Doors, sameDoor)
}

// worldCopy shares no memory with the world that it is of.
func worldCopy(w impl.GateWorld) impl.GateWorld {
	w.Book, w.Doors = bookCopy(w.Book), slices.Clone(w.Doors)
	for i := range w.Doors {
		x := &w.Doors[i]
		x.View, x.Slips = bookCopy(x.View), slices.Clone(x.Slips)
		for j := range x.Slips {
			s := &x.Slips[j]
			s.Wants = slices.Clone(s.Wants)
			s.Ask.Values, s.Ask.Holds = slices.Clone(s.Ask.Values), slices.Clone(s.Ask.Holds)
			s.Ask.Rule.Verbs = slices.Clone(s.Ask.Rule.Verbs)
		}
	}
	return w
}

func wantWorld(t *testing.T, what string, l impl.GateLaw, w impl.GateWorld, want bool) {
	t.Helper()
	if got := impl.GateWorldOk(l, w); got != want {
		t.Errorf("%s: GateWorldOk of %+v = %v", what, w, got)
	}
}

// wantStep asks for what is said, and for the world with something turned, which is ok as the one ahead of it was.
func wantStep(t *testing.T, what string, l impl.GateLaw, w impl.GateWorld, e impl.GateEvent, said impl.GateSaid, turn func(w *impl.GateWorld)) {
	t.Helper()
	wantWorld(t, what, l, w, true)
	want := turned(w, turn)
	got, told := impl.GateStep(l, w, e)
	if told != said || !sameWorld(got, want) {
		t.Errorf("%s: %+v, not %+v, and %+v,\nnot %+v", what, told, said, got, want)
	}
	wantWorld(t, what+", then", l, got, true)
}

// wantDoneStep is wantStep of an event that is told nothing but Code 0.
func wantDoneStep(t *testing.T, what string, w impl.GateWorld, e impl.GateEvent, turn func(w *impl.GateWorld)) {
	t.Helper()
	wantStep(t, what, passLaw(), w, e, impl.GateSaid{}, turn)
}

// wantSame is wantStep of an event that turns nothing.
func wantSame(t *testing.T, what string, l impl.GateLaw, w impl.GateWorld, e impl.GateEvent, code int) {
	t.Helper()
	wantStep(t, what, l, w, e, impl.GateSaid{Code: code}, func(*impl.GateWorld) {})
}

// wantNoStep asks for code 1, with which the world is nothing.
func wantNoStep(t *testing.T, what string, l impl.GateLaw, w impl.GateWorld, e impl.GateEvent) {
	t.Helper()
	got, said := impl.GateStep(l, w, e)
	if said != (impl.GateSaid{Code: 1}) || !sameWorld(got, impl.GateWorld{}) {
		t.Errorf("%s: %+v, and %+v", what, said, got)
	}
}

// wrongWorlds are worlds that are not ok by passLaw, by what is wrong with them.
func wrongWorlds() map[string]impl.GateWorld {
	out := map[string]impl.GateWorld{}
	spoil := func(what string, turn func(w *impl.GateWorld)) { out[what] = turned(passWorld(), turn) }
	spoil("a book", func(w *impl.GateWorld) { w.Book.Tick = -1 })
	spoil("a book without bounds", func(w *impl.GateWorld) { w.Book.Ledgers[0].Free++ })
	spoil("a door too many", func(w *impl.GateWorld) { w.Doors = manyDoors(impl.GateMaxDoors + 1) })
	spoil("many doors too many", func(w *impl.GateWorld) { w.Doors = manyDoors(50) })
	spoil("the first doors turned around", func(w *impl.GateWorld) { w.Doors[0], w.Doors[1] = w.Doors[1], w.Doors[0] })
	spoil("the last doors turned around", func(w *impl.GateWorld) { w.Doors[1], w.Doors[2] = w.Doors[2], w.Doors[1] })
	spoil("two doors of a Name", func(w *impl.GateWorld) { w.Doors[2].Name = "k" })
	spoil("a door twice", func(w *impl.GateWorld) { w.Doors = slices.Insert(w.Doors, 1, w.Doors[0]) })
	for _, name := range notNames() {
		spoil("the only door's Name "+name, func(w *impl.GateWorld) { w.Doors = []impl.GateDoor{{Name: name, Up: true}} })
		spoil("a dead door's Name "+name, func(w *impl.GateWorld) { w.Doors = []impl.GateDoor{{Name: name}} })
	}
	for at := range 3 {
		spoil("a View at "+count(at), func(w *impl.GateWorld) { w.Doors[at].View.Tick = -1 })
		spoil("a View without bounds at "+count(at), func(w *impl.GateWorld) { w.Doors[at].View.Ledgers[1].Free-- })
		spoil("a View to come at "+count(at), func(w *impl.GateWorld) { w.Doors[at].View.Now = w.Book.Now + 1 })
	}
	spoil("one slip too many", func(w *impl.GateWorld) {
		w.Doors[0].Slips = slipRow("make", "change", "end", "let go", "give", "take", "make")
	})
	spoil("a slip of another door", func(w *impl.GateWorld) { w.Doors[1].Slips = slipRow("take") })
	spoil("the last slip of another door", func(w *impl.GateWorld) { w.Doors[0].Slips[3].Door = "k" })
	spoil("slips of a dead door", func(w *impl.GateWorld) { w.Doors[0].Up = false })
	spoil("one slip of a dead door", func(w *impl.GateWorld) { w.Doors[0].Up, w.Doors[0].Slips = false, slipRow("take") })
	for what, s := range spoiledSlips() {
		spoil("a slip: "+what, func(w *impl.GateWorld) { w.Doors[0].Slips[2] = s })
	}
	return out
}
