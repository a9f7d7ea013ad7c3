package tests

import (
	"fmt"
	"testing"

	"loop.example/wharfhall/impl"
)

// voyage is a world that events have led to from a new one, and what was handed in on the way.
type voyage struct {
	w      impl.RecWorld
	wished map[string]bool
	seen   map[string]int
}

func newVoyage(n int, seen map[string]int) *voyage {
	return &voyage{w: impl.RecNewWorld(n), wished: map[string]bool{"": true}, seen: seen}
}

// do lets an event happen as the document's words say it, with all promises of such a world on the way.
func (v *voyage) do(t *testing.T, e impl.RecEvent) {
	t.Helper()
	if e.Kind == impl.RecEvWish {
		v.wished[e.Text] = true
	}
	got := recDone(t, "on a voyage", v.w, e)
	v.wantPromises(t, recEventTold(e), got)
	for i, r := range v.w.Recorders {
		if next := got.Recorders[i]; e.Kind == impl.RecEvFall && e.A == i {
			v.count("lost by a fall", !sameDisk(r.Disk, next.Disk))
			if !sameDisk(next.Disk, r.Safe) || !sameDisk(next.Safe, r.Safe) {
				t.Fatalf("a fall of %s\nled to %s", recorderTold(r), recorderTold(next))
			}
		} else if next.Disk.Promise < r.Disk.Promise || next.Disk.Known < r.Disk.Known {
			t.Fatalf("%s: the disk of %s\nhas gone back to that of %s", recEventTold(e), recorderTold(r), recorderTold(next))
		}
	}
	v.count("full", len(got.Flight) == impl.RecMaxFlight)
	v.count(fmt.Sprint("the Kind ", e.Kind), !sameRecWorld(got, v.w))
	v.w = got
}

// calm lets rounds go by, with the promises behind them.
func (v *voyage) calm(t *testing.T, rounds int) {
	t.Helper()
	got := wantRecCalm(t, "on a voyage", v.w, rounds)
	v.wantPromises(t, count(rounds)+" rounds", got)
	v.count("rounds", true)
	v.w = got
}

func (v *voyage) count(what string, is bool) {
	if is {
		v.seen[what]++
	}
}

// wantPromises is P26, P28, P29, P30 and P32 of what a voyage leads on to.
func (v *voyage) wantPromises(t *testing.T, what string, got impl.RecWorld) {
	t.Helper()
	if !impl.RecWorldOk(got) || !recWorldByHand(got) {
		t.Fatalf("%s of %s\nled to %s,\nwhich is not ok", what, recWorldTold(v.w), recWorldTold(got))
	}
	wantFixedStays(t, v.w, got)
	if !impl.RecAgree(got) || !agreeByHand(got) {
		t.Fatalf("%s of %s\nled to %s,\nwhich do not agree", what, recWorldTold(v.w), recWorldTold(got))
	}
	leads := map[int]int{}
	for _, r := range got.Recorders {
		if r.Lead {
			leads[r.Ballot]++
			v.count("leads", true)
		}
		if leads[r.Ballot] > 1 {
			t.Fatalf("%s of %s\nled to %s,\nwhere two lead under %d", what, recWorldTold(v.w), recWorldTold(got), r.Ballot)
		}
		for _, text := range impl.RecBook(r) {
			if !v.wished[text] {
				t.Fatalf("%s: nobody wished for %q, which %s knows", what, text, recorderTold(r))
			}
			v.count("knows an empty text", text == "")
		}
	}
	v.count("two lead", len(leads) > 1)
	v.count("fixed", len(got.Fixed) > len(v.w.Fixed))
}

// weather is how often something happens on a voyage, of so many things; near is among how many messages one is drawn.
// Nothing goes between the others and who is cut off, if there is one, until the weather changes.
type weather struct {
	tick, bring, near, double, lose, fall, rise, wish int
	cut                                               int
}

// diceWeather is a quiet one, one of wild seas, one of storms in which all fall and much is lost, one in which messages
// heap up, or one in which ticks are rare; and one of the recorders may be cut off.
func diceWeather(d *dice, of int) weather {
	x := oneOf(d,
		weather{tick: 8, bring: 40, near: 4, double: 1, lose: 1, fall: 1, rise: 4, wish: 3},
		weather{tick: 12, bring: 30, near: 30, double: 3, lose: 6, fall: 1, rise: 3, wish: 3},
		weather{tick: 20, bring: 60, near: 9, double: 2, lose: 20, fall: 5, rise: 20, wish: 6},
		weather{tick: 12, bring: 12, near: 200, double: 12, lose: 2, fall: 1, rise: 3, wish: 3},
		weather{tick: 2, bring: 30, near: 3, double: 1, lose: 1, fall: 1, rise: 3, wish: 2},
	)
	x.cut = oneOf(d, 0, 1, 1, 2, 1+d.below(of))
	return x
}

// event draws what happens. Where a message would go to who is cut off, or come from it, it waits, and time goes by.
func (x weather) event(d *dice, w impl.RecWorld) impl.RecEvent {
	at := d.below(len(w.Recorders))
	near := d.below(max(1, min(len(w.Flight), x.near)))
	n := d.below(x.tick + x.bring + x.double + x.lose + x.fall + x.rise + x.wish)
	for _, c := range []struct {
		often int
		e     impl.RecEvent
	}{
		{x.tick, recTickEvent()},
		{x.bring, x.through(d, w, near)},
		{x.double, recEvent(impl.RecEvDouble, near)},
		{x.lose, recEvent(impl.RecEvLose, near)},
		{x.fall, recEvent(impl.RecEvFall, at)},
		{x.rise, recEvent(impl.RecEvRise, at)},
	} {
		if n < c.often {
			return c.e
		}
		n -= c.often
	}
	return recWishEvent(at, "w"+count(d.below(40)))
}

// through brings the first message from a place on that nothing is in the way of; some that cannot go on are lost.
func (x weather) through(d *dice, w impl.RecWorld, near int) impl.RecEvent {
	for at := near; at < len(w.Flight); at++ {
		if m := w.Flight[at]; m.To != x.cut && m.From != x.cut {
			return recEvent(impl.RecEvBring, at)
		}
		if d.below(4) == 0 {
			return recEvent(impl.RecEvLose, at)
		}
	}
	return recTickEvent()
}

// sail lets so many events happen, in a weather that changes.
func (v *voyage) sail(t *testing.T, d *dice, events int) {
	t.Helper()
	var x weather
	for i := range events {
		if i == 0 || d.below(90) == 0 {
			x = diceWeather(d, len(v.w.Recorders))
		}
		v.do(t, x.event(d, v.w))
	}
}

// P26 to P30 and P32, over many rows of events.
func TestDrawnVoyages(t *testing.T) {
	t.Parallel()
	d := &dice{state: 2801}
	seen := map[string]int{}
	for n := range 200 {
		v := newVoyage(1+n%impl.RecMaxRecorders, seen)
		for range 5 {
			v.sail(t, d, 120)
			if d.below(3) == 0 {
				v.calm(t, d.below(12))
			}
		}
		seen["fixed at the end"] += len(v.w.Fixed)
		for _, r := range v.w.Recorders {
			seen["known at the end"] += r.Disk.Known
		}
	}
	wantSeen(t, seen, 100, "the Kind 1", "the Kind 2", "the Kind 3", "the Kind 4", "the Kind 5", "the Kind 6", "the Kind 7", "rounds",
		"lost by a fall", "leads", "two lead", "fixed", "fixed at the end", "known at the end", "knows an empty text", "full")
}
