package tests

import (
	"slices"

	"loop.example/wharfhall/impl"
)

// recWorldByHand is what chapter 26 says of a world.
func recWorldByHand(w impl.RecWorld) bool {
	of := len(w.Recorders)
	ok := of >= 1 && of <= 5 && len(w.Flight) <= 600
	for i, r := range w.Recorders {
		ok = ok && recorderByHand(r) && r.Number == i+1 && r.Of == of
	}
	for _, m := range w.Flight {
		ok = ok && messageByHand(m, of)
	}
	for i, f := range w.Fixed {
		ok = ok && f.Index >= 1 && f.Index <= 120 && len(f.Text) <= 160 && (i == 0 || f.Index > w.Fixed[i-1].Index)
	}
	return ok
}

// recDoByHand is what chapter 26 says of RecDo.
func recDoByHand(w impl.RecWorld, e impl.RecEvent) impl.RecWorld {
	if !recWorldByHand(w) {
		return impl.RecWorld{}
	}
	w = copyRecWorld(w)
	happenByHand(&w, e)
	return w
}

// happenByHand changes an ok world that shares its lists with nobody.
func happenByHand(w *impl.RecWorld, e impl.RecEvent) {
	hasMessage := e.A >= 0 && e.A < len(w.Flight)
	hasRecorder := e.A >= 0 && e.A < len(w.Recorders)
	switch {
	case e.Kind == 1:
		for i, r := range w.Recorders {
			next, sent := recTickByHand(r)
			w.Recorders[i] = next
			flyByHand(w, sent...)
		}
		noteByHand(w)
	case e.Kind == 2 && hasMessage:
		m := w.Flight[e.A]
		w.Flight = slices.Delete(w.Flight, e.A, e.A+1)
		w.Recorders[m.To-1] = takeByHand(w.Recorders[m.To-1], m)
		noteByHand(w)
	case e.Kind == 3 && hasMessage:
		flyByHand(w, w.Flight[e.A])
	case e.Kind == 4 && hasMessage:
		w.Flight = slices.Delete(w.Flight, e.A, e.A+1)
	case e.Kind == 5 && hasRecorder:
		w.Recorders[e.A] = fallByHand(w.Recorders[e.A])
	case e.Kind == 6 && hasRecorder:
		w.Recorders[e.A] = riseByHand(w.Recorders[e.A])
	case e.Kind == 7 && hasRecorder:
		w.Recorders[e.A] = recWishByHand(w.Recorders[e.A], e.Text)
	}
}

func flyByHand(w *impl.RecWorld, list ...impl.RecMessage) {
	for _, m := range list {
		if len(w.Flight) < 600 {
			w.Flight = append(w.Flight, m)
		}
	}
}

// fixedByHand tells what a world has fixed for a place.
func fixedByHand(w impl.RecWorld, index int) (string, bool) {
	for _, f := range w.Fixed {
		if f.Index == index {
			return f.Text, true
		}
	}
	return "", false
}

func noteByHand(w *impl.RecWorld) {
	for index := 1; index <= 120; index++ {
		if _, has := fixedByHand(*w, index); has {
			continue
		}
		text, told := mostByHand(*w, index)
		for _, r := range w.Recorders {
			if !told && r.Disk.Known >= index {
				text, told = r.Disk.Slots[index-1].Text, true
			}
		}
		if told {
			w.Fixed = append(w.Fixed, impl.RecFix{Index: index, Text: text})
		}
	}
	slices.SortFunc(w.Fixed, func(a, b impl.RecFix) int { return a.Index - b.Index })
}

// mostByHand asks of each recorder's slot how many have the same.
func mostByHand(w impl.RecWorld, index int) (string, bool) {
	for _, r := range w.Recorders {
		s, there := safeAt(r, index)
		same := 0
		for _, other := range w.Recorders {
			if o, is := safeAt(other, index); is && o == s {
				same++
			}
		}
		if there && s.Ballot > 0 && same > len(w.Recorders)/2 {
			return s.Text, true
		}
	}
	return "", false
}

func safeAt(r impl.Recorder, index int) (impl.RecSlot, bool) {
	if index < 1 || index > len(r.Safe.Slots) {
		return impl.RecSlot{}, false
	}
	return r.Safe.Slots[index-1], true
}

// recCalmByHand is what chapter 26 says of RecCalm, event by event.
func recCalmByHand(w impl.RecWorld, rounds int) impl.RecWorld {
	if !recWorldByHand(w) {
		return impl.RecWorld{}
	}
	w = copyRecWorld(w)
	for i := 0; i < rounds && i < 1000; i++ {
		happenByHand(&w, recTickEvent())
		for range len(w.Flight) {
			happenByHand(&w, recEvent(2, 0))
		}
	}
	return w
}

// majorByHand is what chapter 27 says of RecMajor.
func majorByHand(w impl.RecWorld, index int) (string, bool) {
	if !recWorldByHand(w) {
		return "", false
	}
	return mostByHand(w, index)
}

// agreeByHand is what chapter 27 says of RecAgree.
func agreeByHand(w impl.RecWorld) bool {
	agree := recWorldByHand(w)
	for _, r := range w.Recorders {
		for i := 0; agree && i < r.Disk.Known; i++ {
			text, has := fixedByHand(w, i+1)
			agree = has && text == r.Disk.Slots[i].Text
		}
	}
	for index := 1; agree && index <= 120; index++ {
		if most, told := mostByHand(w, index); told {
			text, has := fixedByHand(w, index)
			agree = has && text == most
		}
	}
	return agree
}
