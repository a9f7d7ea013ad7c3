package tests

import (
	"slices"

	"loop.example/wharfhall/impl"
)

// hallWorldByHand is what chapter 34 says of a world.
func hallWorldByHand(w impl.HallWorld) bool {
	ok := impl.HallHouseOk(w.House) && recWorldByHand(w.Rec) && w.Now >= 0 && len(w.Asked) <= 12
	for i, a := range w.Asked {
		_, read := readByHand(a.Text)
		ok = ok && read && 0 <= a.From && a.From <= w.Now
		if a.To == 0 {
			ok = ok && a.Said == impl.GateSaid{}
		} else {
			ok = ok && a.From < a.To && a.To <= w.Now
		}
		for _, other := range w.Asked[:i] {
			ok = ok && a.Text != other.Text
		}
	}
	return ok
}

// knownByHand is what chapter 27 says of RecBook, of a valid recorder.
func knownByHand(r impl.Recorder) []string {
	var texts []string
	for i := range r.Disk.Known {
		texts = append(texts, r.Disk.Slots[i].Text)
	}
	return texts
}

// hallViewByHand is what chapter 34 says of HallView.
func hallViewByHand(w impl.HallWorld, at int) impl.HallBook {
	if !hallWorldByHand(w) || at < 0 || at >= len(w.Rec.Recorders) {
		return impl.HallBook{}
	}
	return stateByHand(w.House, knownByHand(w.Rec.Recorders[at]))
}

// hallStepByHand is what chapter 34 says of HallStep.
func hallStepByHand(w impl.HallWorld, e impl.HallEvent) impl.HallWorld {
	if !hallWorldByHand(w) {
		return impl.HallWorld{}
	}
	w = copyHallWorld(w)
	w.Now++
	there := e.A >= 0 && e.A < len(w.Rec.Recorders)
	up := there && w.Rec.Recorders[e.A].Up
	switch {
	case e.Kind >= 1 && e.Kind <= 6:
		happenByHand(&w.Rec, impl.RecEvent{Kind: e.Kind, A: e.A})
	case e.Kind == 11 && there:
		if form := formByHand(e.Entry); form != "" && e.Entry.Kind != 7 && e.Entry.Number <= 500000 {
			hallAskByHand(&w, e.A, form)
		}
	case e.Kind == 12 && up && e.B <= 500000:
		entry, said := slipOfByHand(w.House, hallViewByHand(w, e.A), e.B, e.Door, e.Ask)
		if said.Code == 0 {
			hallAskByHand(&w, e.A, formByHand(entry))
		}
	case e.Kind == 13 && up:
		for _, entry := range actsByHand(w.House, hallViewByHand(w, e.A), e.B) {
			happenByHand(&w.Rec, recWishEvent(e.A, formByHand(entry)))
		}
	case e.Kind == 14 && up && e.B >= 0 && e.B < len(w.Asked) && w.Asked[e.B].To == 0:
		if said, told := toldByHand(w.House, knownByHand(w.Rec.Recorders[e.A]), w.Asked[e.B].Text); told {
			w.Asked[e.B].To, w.Asked[e.B].Said = w.Now, said
		}
	}
	return w
}

func hallAskByHand(w *impl.HallWorld, at int, text string) {
	if !slices.ContainsFunc(w.Asked, func(a impl.HallAsked) bool { return a.Text == text }) {
		if len(w.Asked) >= 12 {
			return
		}
		w.Asked = append(w.Asked, impl.HallAsked{Text: text, From: w.Now})
	}
	happenByHand(&w.Rec, recWishEvent(at, text))
}

// hallCalmByHand is what chapter 34 says of HallCalm.
func hallCalmByHand(w impl.HallWorld, rounds int) impl.HallWorld {
	if !hallWorldByHand(w) {
		return impl.HallWorld{}
	}
	w = copyHallWorld(w)
	for i := 0; i < rounds && i < 1000; i++ {
		w.Rec = recCalmByHand(w.Rec, 1)
		w.Now++
		for at, r := range w.Rec.Recorders {
			if r.Up && r.Lead && len(r.Wishes) == 0 && r.Disk.Known == len(r.Disk.Slots) {
				goOnByHand(&w, at)
				break
			}
		}
	}
	return w
}

func goOnByHand(w *impl.HallWorld, at int) {
	texts := knownByHand(w.Rec.Recorders[at])
	number := 500000
	for _, text := range texts {
		if e, read := readByHand(text); read && e.Kind != 7 && e.Number > number {
			number = e.Number
		}
	}
	if e, is := nextByHand(w.House, stateByHand(w.House, texts), number+1); is {
		happenByHand(&w.Rec, recWishEvent(at, formByHand(e)))
	}
}

// fixedTextsByHand is what chapter 35 says of HallFixed.
func fixedTextsByHand(w impl.HallWorld) []string {
	if !hallWorldByHand(w) {
		return nil
	}
	var texts []string
	for {
		text, has := fixedByHand(w.Rec, len(texts)+1)
		if !has {
			return texts
		}
		texts = append(texts, text)
	}
}

// rightByHand is what chapter 35 says of HallRight.
func rightByHand(w impl.HallWorld) bool {
	if !hallWorldByHand(w) || !agreeByHand(w.Rec) {
		return false
	}
	texts := fixedTextsByHand(w)
	right := true
	for _, a := range w.Asked {
		if a.To == 0 {
			continue
		}
		said, told := toldByHand(w.House, texts, a.Text)
		right = right && told && said == a.Said
		for _, b := range w.Asked {
			at := slices.Index(texts, b.Text)
			right = right && (b.From <= a.To || at < 0 || at > slices.Index(texts, a.Text))
		}
	}
	return right
}

// doneHallByHand is what chapter 35 says of HallDone.
func doneHallByHand(w impl.HallWorld) bool {
	if !hallWorldByHand(w) {
		return false
	}
	var up []impl.Recorder
	for _, r := range w.Rec.Recorders {
		if r.Up {
			up = append(up, r)
		}
	}
	if len(up) == 0 {
		return false
	}
	for _, r := range up {
		if len(r.Wishes) != 0 || r.Disk.Known != len(r.Disk.Slots) || !slices.Equal(knownByHand(r), knownByHand(up[0])) {
			return false
		}
	}
	l, b := impl.HallLaw(w.House), stateByHand(w.House, knownByHand(up[0]))
	return doneByHand(b.Stew) && markByHand(l, b.Gate) == 0 && greatestByHand(l, b.Gate, endingByHand(b.Gate)) == 0
}
