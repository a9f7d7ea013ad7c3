package tests

import (
	"slices"
	"testing"

	"loop.example/wharfhall/impl"
)

// diceHallWorld is an ok world of recorders of all sorts, whose disks have mostly the texts of a drawn row, and of whom
// one may lead at rest. Some of the row's texts were asked, and mostly told what is said to them there.
func diceHallWorld(d *dice) (impl.HallWorld, *textRow) {
	r := drawnRow(d, d.below(30))
	w := impl.HallWorld{House: r.row.h, Rec: diceRecWorld(d), Now: d.below(40)}
	texts := slices.DeleteFunc(slices.Clone(r.texts), func(text string) bool { return len(text) > impl.RecMaxText })
	for i := range w.Rec.Recorders {
		x := &w.Rec.Recorders[i]
		layTexts(d, texts, x.Safe.Slots)
		layTexts(d, texts, x.Disk.Slots)
		x.Wishes = layWishes(d, texts, x.Wishes)
		if x.Up && d.below(2) == 0 {
			knowing(max(1, x.Disk.Promise), texts[:oneOf(d, len(texts), d.below(len(texts)+1))]...)(x)
			quiet(x)
		}
		if x.Up && x.Disk.Promise > 0 && d.below(2) == 0 {
			x.Wishes = nil
			quiet(x)
			leading(x)
		}
	}
	for i := range w.Rec.Flight {
		if d.below(3) == 0 && len(texts) > 0 {
			w.Rec.Flight[i].Text = oneOf(d, texts...)
		}
	}
	w.Rec.Fixed = diceFixedTexts(d, texts)
	w.Asked = diceAsked(d, r, w.Now)
	return w, r
}

// layTexts puts texts into the slots in which something was taken, mostly each at its place.
func layTexts(d *dice, texts []string, slots []impl.RecSlot) {
	for i := range slots {
		if slots[i].Ballot > 0 && i < len(texts) {
			slots[i].Text = oneOf(d, texts[i], texts[i], texts[i], oneOf(d, texts...))
		}
	}
}

func layWishes(d *dice, texts, old []string) []string {
	var out []string
	for _, text := range old {
		if len(texts) > 0 {
			text = oneOf(d, texts...)
		}
		if text != "" && !slices.Contains(out, text) {
			out = append(out, text)
		}
	}
	return out
}

// diceFixedTexts are the beginning of texts, or most of them.
func diceFixedTexts(d *dice, texts []string) []impl.RecFix {
	var fixed []impl.RecFix
	holes := d.below(3) == 0
	for i, text := range texts[:d.below(len(texts)+1)] {
		if !holes || d.below(8) > 0 {
			fixed = append(fixed, impl.RecFix{Index: i + 1, Text: text})
		}
	}
	return fixed
}

// diceAsked are texts of a row that are read, each once.
func diceAsked(d *dice, r *textRow, now int) []impl.HallAsked {
	var out []impl.HallAsked
	for range d.below(impl.HallMaxAsked + 1) {
		text := some(d, r.texts, "time "+count(1+d.below(900)))
		said, counts := r.told[text]
		if _, read := impl.HallRead(text); !read || slices.ContainsFunc(out, func(a impl.HallAsked) bool { return a.Text == text }) {
			continue
		}
		a := impl.HallAsked{Text: text, From: d.below(now + 1)}
		if a.From < now && d.below(2) == 0 && (counts || d.below(9) == 0) {
			a.To, a.Said = a.From+1+d.below(now-a.From), said
			if d.below(12) == 0 {
				a.Said = oneOf(d, impl.GateSaid{}, codeAlone(1), impl.GateSaid{Version: said.Version + 1}, undone(said.Place))
			}
		}
		out = append(out, a)
	}
	return out
}

// diceHallEvent is an event, mostly one that happens.
func diceHallEvent(d *dice, w impl.HallWorld, r *textRow) impl.HallEvent {
	if d.below(3) == 0 {
		e := diceRecEvent(d, w.Rec)
		return hallEvent(e.Kind, e.A, d.below(9)-1)
	}
	e := impl.HallEvent{Kind: oneOf(d, 11, 11, 12, 12, 12, 13, 13, 13, 14, 14, 14, 10, 15), Door: oneOf(d, diceDoors[:3]...)}
	e.A = oneOf(d, d.below(len(w.Rec.Recorders)), d.below(len(w.Rec.Recorders)), d.below(len(w.Rec.Recorders)+2)-1)
	view := impl.HallView(w, e.A)
	e.Ask, e.Entry = r.row.diceHallAsk(d, view), r.row.diceHallEntry(d)
	if len(w.Asked) > 0 && d.below(3) == 0 {
		e.Entry, _ = impl.HallRead(oneOf(d, w.Asked...).Text)
	}
	e.B = oneOf(d, d.below(9)-1, 1+d.below(900))
	switch e.Kind {
	case impl.HallHear:
		e.B = d.below(len(w.Asked)+2) - 1
	case impl.HallSteward:
		e.B = (&hallVoyage{w: w}).diceSteward(d, max(e.A, 0))
	}
	return e
}

// Whatever there is in a drawn world, and whatever happens there, is what the document's words say.
func TestDrawnHallWorlds(t *testing.T) {
	t.Parallel()
	d := &dice{state: 3401}
	seen := map[string]int{}
	for range 800 {
		w, r := diceHallWorld(d)
		kept := copyHallWorld(w)
		if !impl.HallWorldOk(w) || !hallWorldByHand(w) {
			t.Fatalf("%s is not ok", hallWorldTold(w))
		}
		at := d.below(len(w.Rec.Recorders)+2) - 1
		wantView(t, "drawn", w, at, hallViewByHand(w, at))
		wantFixedTexts(t, "drawn", w, fixedTextsByHand(w)...)
		right, done := rightByHand(w), doneHallByHand(w)
		wantRight(t, "drawn", w, right)
		wantHallDone(t, "drawn", w, done)
		seen["right "+map[bool]string{true: "yes", false: "no"}[right]]++
		seen["done "+map[bool]string{true: "yes", false: "no"}[done]]++
		for range 5 {
			e := diceHallEvent(d, w, r)
			got := hallStepped(t, "drawn", w, e)
			if !sameRecWorld(got.Rec, w.Rec) || !slices.Equal(got.Asked, w.Asked) {
				seen["the Kind "+count(e.Kind)]++
			}
		}
		if !sameHallWorld(w, kept) {
			t.Fatalf("%s was written into: it was %s", hallWorldTold(w), hallWorldTold(kept))
		}
		if t.Failed() {
			return
		}
	}
	wantSeen(t, seen, 20, "right yes", "right no", "done yes", "done no", "the Kind 1", "the Kind 2", "the Kind 3", "the Kind 4", "the Kind 5", "the Kind 6",
		"the Kind 11", "the Kind 12", "the Kind 13", "the Kind 14")
}

func TestDrawnHallWorldsInCalm(t *testing.T) {
	t.Parallel()
	d := &dice{state: 3402}
	wished := 0
	for range 500 {
		w, _ := diceHallWorld(d)
		w.Rec.Flight = w.Rec.Flight[:min(len(w.Rec.Flight), d.below(40))]
		kept := copyHallWorld(w)
		rounds := oneOf(d, 0, 1, 1, 2, 3, 5)
		got := hallCalmed(t, "drawn", w, rounds)
		if !sameRecWorld(got.Rec, recCalmByHand(w.Rec, rounds)) {
			wished++
		}
		if !sameHallWorld(w, kept) {
			t.Fatalf("%s was written into: it was %s", hallWorldTold(w), hallWorldTold(kept))
		}
		if t.Failed() {
			return
		}
	}
	if wished < 30 {
		t.Errorf("something came of itself in %d worlds only", wished)
	}
}

// turnHallWorld turns one thing of a world.
func turnHallWorld(d *dice, w *impl.HallWorld) {
	if len(w.Asked) == 0 || d.below(4) == 0 {
		switch d.below(4) {
		case 0:
			turnRecWorld(d, &w.Rec)
		case 1:
			w.Now = oneOf(d, -1, 0, w.Now-1, d.below(40))
		case 2:
			w.House.Grants[d.below(len(w.House.Grants))].Number += oneOf(d, 0, 1, -1)
		default:
			w.Asked = append(manyAsked(impl.HallMaxAsked-len(w.Asked)+d.below(2)), w.Asked...)
		}
		return
	}
	a := &w.Asked[d.below(len(w.Asked))]
	switch d.below(5) {
	case 0:
		a.Text = oneOf(d, "", "time 1", a.Text+" ", oneOf(d, w.Asked...).Text, oneOf(d, unreadTexts()...))
	case 1:
		a.From = oneOf(d, -1, 0, a.To-1, a.To, a.To+1, w.Now, w.Now+1)
	case 2:
		a.To = oneOf(d, -1, 0, a.From, a.From+1, w.Now, w.Now+1)
	case 3:
		a.Said = oneOf(d, impl.GateSaid{}, codeAlone(1), undone(2), impl.GateSaid{Version: 3})
	default:
		w.Asked = append(w.Asked, oneOf(d, *a, impl.HallAsked{Text: "time 901"}))
	}
}

func TestDrawnHallWorldsThatAreTurned(t *testing.T) {
	t.Parallel()
	d := &dice{state: 3403}
	seen := map[bool]int{}
	for range 600 {
		base, r := diceHallWorld(d)
		for range 5 {
			w := copyHallWorld(base)
			turnHallWorld(d, &w)
			ok := hallWorldByHand(w)
			seen[ok]++
			if got := impl.HallWorldOk(w); got != ok {
				t.Fatalf("HallWorldOk of %s\n= %v", hallWorldTold(w), got)
			}
			wantRight(t, "turned", w, rightByHand(w))
			wantHallDone(t, "turned", w, doneHallByHand(w))
			wantFixedTexts(t, "turned", w, fixedTextsByHand(w)...)
			hallStepped(t, "turned", w, diceHallEvent(d, base, r))
			if !ok {
				hallCalmed(t, "turned", w, 1)
			}
		}
		if t.Failed() {
			return
		}
	}
	if seen[true] < 500 || seen[false] < 500 {
		t.Errorf("the dice showed too little: %v", seen)
	}
}
