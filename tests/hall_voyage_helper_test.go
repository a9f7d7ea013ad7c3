package tests

import (
	"slices"
	"testing"

	"loop.example/wharfhall/impl"
)

// hallVoyage is a world that events have led to from a new one. On a mild one nothing is asked for that is too great for
// promise 44.
type hallVoyage struct {
	w      impl.HallWorld
	seen   map[string]int
	mild   bool
	number int
}

func newHallVoyage(d *dice, n int, seen map[string]int) *hallVoyage {
	return &hallVoyage{w: impl.HallNew(diceHouse(d), n), seen: seen}
}

func (v *hallVoyage) count(what string, is bool) {
	if is {
		v.seen[what]++
	}
}

// do lets an event happen as the document's words say it, with promise 42 on the way.
func (v *hallVoyage) do(t *testing.T, e impl.HallEvent) {
	t.Helper()
	got := hallStepped(t, "on a voyage", v.w, e)
	v.wantOneHall(t, hallEventTold(e), got)
	v.look(e, got)
	v.w = got
}

// pass lets an event happen where the document's words are asked elsewhere.
func (v *hallVoyage) pass(_ *testing.T, e impl.HallEvent) {
	got := impl.HallStep(v.w, e)
	v.look(e, got)
	v.w = got
}

// look counts what an event did.
func (v *hallVoyage) look(e impl.HallEvent, got impl.HallWorld) {
	v.count("the Kind "+count(e.Kind), !sameRecWorld(got.Rec, v.w.Rec) || !slices.Equal(got.Asked, v.w.Asked))
	v.count("asked", len(got.Asked) > len(v.w.Asked))
	v.count("asked enough", len(got.Asked) == impl.HallMaxAsked)
	v.count("asked once more", e.Kind == impl.HallAsks && len(got.Asked) == len(v.w.Asked) && !sameRecWorld(got.Rec, v.w.Rec))
	if e.Kind == impl.HallHear && !slices.Equal(got.Asked, v.w.Asked) {
		v.seen["heard "+count(min(1, got.Asked[e.B].Said.Code))]++
	}
}

// calm lets rounds go by as the document's words say it, with promise 42 behind them.
func (v *hallVoyage) calm(t *testing.T, rounds int) {
	t.Helper()
	got := hallCalmed(t, "on a voyage", v.w, rounds)
	v.wantOneHall(t, count(rounds)+" rounds", got)
	v.count("rounds", true)
	v.w = got
}

// wantOneHall is promise 42, and promise 45, of what a voyage leads on to.
func (v *hallVoyage) wantOneHall(t *testing.T, what string, got impl.HallWorld) {
	t.Helper()
	if !impl.HallWorldOk(got) || !impl.HallRight(got) {
		t.Fatalf("%s of %s\nled to %s,\nwhich is not right", what, hallWorldTold(v.w), hallWorldTold(got))
	}
	before, texts := impl.HallFixed(v.w), impl.HallFixed(got)
	if !begins(texts, before) {
		t.Fatalf("%s: %q were fixed, and are now %q", what, before, texts)
	}
	for _, r := range got.Rec.Recorders {
		if !begins(texts, impl.RecBook(r)) {
			t.Fatalf("%s: %q are fixed, and %s\nknows %q", what, texts, recorderTold(r), impl.RecBook(r))
		}
	}
	v.count("fixed", len(texts) > len(before))
	for i, a := range got.Asked {
		for _, b := range got.Asked[i:] {
			v.count("asked behind an answer", a.To != 0 && b.From > a.To && slices.Contains(texts, b.Text))
		}
	}
}

func begins(texts, beginning []string) bool {
	return len(texts) >= len(beginning) && slices.Equal(texts[:len(beginning)], beginning)
}

// event draws what happens: what may happen to recorders, and, where they would be handed a wish, what may happen in a hall.
func (v *hallVoyage) event(d *dice, x weather) impl.HallEvent {
	if e := x.event(d, v.w.Rec); e.Kind != impl.RecEvWish {
		return hallEvent(e.Kind, e.A, d.below(3))
	}
	at := d.below(len(v.w.Rec.Recorders) + d.below(20)/19)
	switch d.below(8) {
	case 0, 1:
		return hallEvent(impl.HallSteward, at, v.diceSteward(d, at))
	case 2, 3, 4:
		return hallEvent(impl.HallHear, at, d.below(len(v.w.Asked)+1))
	case 5:
		return v.diceAsks(d, at)
	}
	return v.diceThrough(d, at)
}

// diceSteward is one who has something to ask for, if there is one.
func (v *hallVoyage) diceSteward(d *dice, at int) int {
	for range 6 {
		if steward := 1 + d.below(6); len(impl.HallActs(v.w.House, v.view(at), steward)) > 0 {
			return steward
		}
	}
	return d.below(8)
}

// row are the books that a recorder sees, and another one, from which entries are drawn.
func (v *hallVoyage) row(d *dice, at int) *hallRow {
	other := d.below(len(v.w.Rec.Recorders))
	return &hallRow{h: v.w.House, books: []impl.HallBook{v.view(other), v.view(at)}}
}

// view is what a recorder sees; the first books, where there is none.
func (v *hallVoyage) view(at int) impl.HallBook {
	if at < len(v.w.Rec.Recorders) {
		return impl.HallView(v.w, at)
	}
	return impl.HallFirst(v.w.House)
}

// next is a Number for what is asked: mostly a new one.
func (v *hallVoyage) next(d *dice) int {
	v.number += oneOf(d, 0, 1, 1, 1, 1)
	return oneOf(d, v.number, v.number, v.number, v.number, v.number, impl.HallMaxAsks-v.number, impl.HallMaxAsks+1)
}

func (v *hallVoyage) diceAsks(d *dice, at int) impl.HallEvent {
	e := v.row(d, at).diceHallEntry(d)
	if len(v.view(at).Stew.Berths) == 0 && d.below(2) == 0 {
		e = impl.HallEntry{Kind: impl.HallSea, Sea: raiseOf(oneOf(d, diceBerths...), false)}
	}
	if len(v.w.Asked) > 0 && d.below(6) == 0 {
		e, _ = impl.HallRead(oneOf(d, v.w.Asked...).Text)
		return impl.HallEvent{Kind: impl.HallAsks, A: at, Entry: e}
	}
	e.Number = v.next(d)
	v.temper(d, &e.Slip.Ask)
	return impl.HallEvent{Kind: impl.HallAsks, A: at, Entry: e}
}

func (v *hallVoyage) diceThrough(d *dice, at int) impl.HallEvent {
	a := v.row(d, at).diceHallAsk(d, v.view(at))
	v.temper(d, &a)
	return impl.HallEvent{Kind: impl.HallThrough, A: at, B: v.next(d), Door: oneOf(d, diceDoors[:3]...), Ask: a}
}

// temper makes what is asked on a mild voyage small enough.
func (v *hallVoyage) temper(d *dice, a *impl.GateAsk) {
	if !v.mild {
		return
	}
	if a.Verb == impl.GateMake {
		a.Name = oneOf(d, "api", "db", "log", "web")
	}
	if len(a.Values) == 6 {
		a.Values[1], a.Values[3] = count(d.below(4)), oneOf(d, "", "1", "2")
	}
}

// begin asks for a berth and some services, and lets some rounds go by.
func (v *hallVoyage) begin(t *testing.T, d *dice) {
	t.Helper()
	of := len(v.w.Rec.Recorders)
	v.pass(t, asksEvent(t, d.below(of), "sea 1 raise "+oneOf(d, diceBerths...)))
	for range d.below(4) {
		v.pass(t, v.diceThrough(d, d.below(of)))
	}
	v.w = impl.HallCalm(v.w, d.below(40))
}

// raise lets all rise, and asks for a berth.
func (v *hallVoyage) raise(t *testing.T, d *dice) {
	t.Helper()
	for at := range v.w.Rec.Recorders {
		v.pass(t, hallEvent(impl.RecEvRise, at, 0))
	}
	v.pass(t, asksEvent(t, d.below(len(v.w.Rec.Recorders)), "sea 999 raise "+oneOf(d, diceBerths...)))
}

// sail lets so many events happen, in a weather that changes.
func (v *hallVoyage) sail(t *testing.T, d *dice, events int, do func(t *testing.T, e impl.HallEvent)) {
	t.Helper()
	var x weather
	for i := range events {
		if i == 0 || d.below(90) == 0 {
			x = diceWeather(d, len(v.w.Rec.Recorders))
			x.wish *= oneOf(d, 1, 3, 6, 12)
		}
		do(t, v.event(d, x))
	}
}
