package tests

import (
	"testing"

	"loop.example/wharfhall/impl"
)

// needs holds what is asked for of one that leads under a ballot.
func needs(to, ballot, index int) recTurn {
	return holds(impl.RecMessage{Kind: impl.RecNeed, To: to, Ballot: ballot, Index: index})
}

// wished holds a RecWished for each text.
func wished(to int, texts ...string) recTurn {
	return func(r *impl.Recorder) {
		for _, text := range texts {
			holds(impl.RecMessage{Kind: impl.RecWished, To: to, Text: text})(r)
		}
	}
}

func TestBeatsThatAreRefused(t *testing.T) {
	eachUp(func(what string, make func() impl.Recorder) {
		for ballot := range 8 {
			for from := 1; from <= 3; from++ {
				for _, known := range []int{0, 2, 4, impl.RecMaxSlots} {
					m := impl.RecMessage{Kind: impl.RecBeat, From: from, Ballot: ballot, Known: known}
					wantTakes(t, []takeCase{{what + ", ballot " + count(ballot), make(), m, []recTurn{refuses(from, 8)}}})
				}
			}
		}
	})
}

func TestBeatsThatAreNothing(t *testing.T) {
	eachUp(func(what string, make func() impl.Recorder) {
		for _, ballot := range []int{8, 9, impl.RecMaxBallot} {
			m := impl.RecMessage{Kind: impl.RecBeat, From: 2, Ballot: ballot, Known: 4}
			wantTakes(t, []takeCase{{what + ", from itself", make(), m, nil}})
		}
	})
	fresh := turnedRecorder(impl.RecNew(2, 3), wishesFor("w"), func(r *impl.Recorder) { r.Heard = 4 })
	wantTakes(t, []takeCase{
		{"Ballot 0", fresh, impl.RecMessage{Kind: impl.RecBeat}, nil},
		{"Ballot 0, with something known", fresh, impl.RecMessage{Kind: impl.RecBeat, Known: 3}, nil},
		{"Ballot 0, from itself", fresh, impl.RecMessage{Kind: impl.RecBeat, From: 2, Known: 3}, nil},
		{"Ballot 0, though there are empty slots", turnedRecorder(fresh, writes("0: 0:")), impl.RecMessage{Kind: impl.RecBeat, Known: 3}, nil},
		{"Ballot 1", fresh, impl.RecMessage{Kind: impl.RecBeat, Ballot: 1}, []recTurn{promises(1), hears, wished(1, "w")}},
	})
}

// Whoever hears of a leader of another ballot is quiet; of one of its own, it is as it was.
func TestBeatsAreFollowed(t *testing.T) {
	all := wished(3, "c", "a", "\x00")
	for _, ballot := range []int{9, 10, impl.RecMaxBallot} {
		eachUp(func(what string, make func() impl.Recorder) {
			m := impl.RecMessage{Kind: impl.RecBeat, From: 3, Ballot: ballot, Known: 1, Index: 7, Text: "no", Slots: slotRow("1:no")}
			wantTakes(t, []takeCase{{what + ", ballot " + count(ballot), make(), m, []recTurn{promises(ballot), hears, quiets, all}}})
		})
	}
	eachUp(func(what string, make func() impl.Recorder) {
		m := impl.RecMessage{Kind: impl.RecBeat, From: 3, Ballot: 8}
		wantTakes(t, []takeCase{{what + ", its own ballot", make(), m, []recTurn{hears, all}}})
	})
	for _, make := range []func() impl.Recorder{leadingRecorder, tryingRecorder} {
		r := turnedRecorder(make(), func(r *impl.Recorder) { r.Ballot = 5 })
		wantTakes(t, []takeCase{
			{"the promised one", r, impl.RecMessage{Kind: impl.RecBeat, From: 3, Ballot: 8}, []recTurn{hears, quiets, all}},
			{"its own one", r, impl.RecMessage{Kind: impl.RecBeat, From: 3, Ballot: 5}, []recTurn{refuses(3, 8)}},
		})
	}
}

// What is known by a beat of 8 are the slots of 8 behind what was known, up to the first of another ballot.
func TestWhatIsKnownByABeat(t *testing.T) {
	for _, c := range []struct {
		row   string
		first int
		told  int
		known int
	}{
		{"3:a 5:b", 2, 0, 2},
		{"3:a 5:b", 2, 1, 2},
		{"3:a 5:b", 2, 2, 2},
		{"3:a 5:b", 1, 2, 1},
		{"3:a 8:b", 1, 1, 1},
		{"3:a 8:b", 1, 2, 2},
		{"3:a 8:b", 1, 3, 2},
		{"3:a 8:b", 0, 2, 0},
		{"8:a 8:b", 0, 2, 2},
		{"8:a 8:b 8:c", 0, 2, 2},
		{"8:a 8:b 8:c", 0, 120, 3},
		{"8:a 7:b 8:c", 0, 3, 1},
		{"8:a 0: 8:c", 0, 3, 1},
		{"7:a 8:b 8:c", 0, 3, 0},
		{"7:a 8: 8:", 1, 3, 3},
		{"", 0, 0, 0},
		{"", 0, 1, 0},
		{"", 0, 120, 0},
	} {
		r := turnedRecorder(quietRecorder(), writes(c.row), knows(c.first), wishesFor())
		then := []recTurn{hears, knows(c.known)}
		if c.known < c.told {
			then = append(then, needs(1, 8, c.known+1))
		}
		m := impl.RecMessage{Kind: impl.RecBeat, Ballot: 8, Known: c.told}
		wantTakes(t, []takeCase{{c.row + ", known " + count(c.first) + ", told " + count(c.told), r, m, then}})
		// Under a new ballot nothing that stands there is known by it.
		m.Ballot, then = 9, []recTurn{promises(9), hears}
		if c.first < c.told {
			then = append(then, needs(1, 9, c.first+1))
		}
		wantTakes(t, []takeCase{{"a new ballot: " + c.row, r, m, then}})
	}
	all := impl.RecMaxSlots
	full := turnedRecorder(quietRecorder(), knows(0), wishesFor(), func(r *impl.Recorder) { r.Disk.Slots = manySlots(all, 8) })
	other := turnedRecorder(full, func(r *impl.Recorder) { r.Disk.Slots[all-1].Ballot = 7 })
	m := impl.RecMessage{Kind: impl.RecBeat, Ballot: 8, Known: all}
	wantTakes(t, []takeCase{
		{"all places", full, m, []recTurn{hears, knows(all)}},
		{"all but the last", other, m, []recTurn{hears, knows(all - 1), needs(1, 8, all)}},
		{"all are known", turnedRecorder(other, knows(all)), m, []recTurn{hears}},
	})
}

// A leader that hears its own ballot of another one knows by it as any other does, and goes on leading.
func TestWhatALeaderKnowsByABeat(t *testing.T) {
	r := turnedRecorder(ackedLeader(), wishesFor("w"))
	m := impl.RecMessage{Kind: impl.RecBeat, From: 3, Ballot: 8, Known: 6}
	wantTakes(t, []takeCase{{"leading", r, m, []recTurn{hears, knows(4), needs(3, 8, 5), wished(3, "w")}}})
}

// Wishes go to whoever beats, behind what is needed, in their order; and they stay.
func TestWishesAreSentOn(t *testing.T) {
	for _, n := range []int{0, 1, 2, 7, impl.RecMaxWishes} {
		r := turnedRecorder(quietRecorder(), wishesFor(names(n)...))
		for _, from := range []int{1, 3} {
			wantTakes(t, []takeCase{
				{"none needed", r, impl.RecMessage{Kind: impl.RecBeat, From: from, Ballot: 8, Known: 2}, []recTurn{hears, wished(from, names(n)...)}},
				{"some needed", r, impl.RecMessage{Kind: impl.RecBeat, From: from, Ballot: 8, Known: 3}, []recTurn{hears, needs(from, 8, 3), wished(from, names(n)...)}},
			})
		}
	}
	// Those that are known by this very beat are sent on as well: they are gone by a tick alone.
	r := turnedRecorder(quietRecorder(), writes("8:a 8:b 8:c"), knows(1), wishesFor("b", "c", "d"))
	wantTakes(t, []takeCase{{"known now", r, impl.RecMessage{Kind: impl.RecBeat, Ballot: 8, Known: 2}, []recTurn{hears, knows(2), wished(1, "b", "c", "d")}}})
}

func TestWhatIsChosen(t *testing.T) {
	eachUp(func(what string, make func() impl.Recorder) {
		for _, ballot := range []int{0, 1, 4, 7, 8, 9, impl.RecMaxBallot} {
			for index := range 7 {
				for _, from := range []int{1, 2, 3} {
					m := impl.RecMessage{Kind: impl.RecChosen, From: from, Ballot: ballot, Index: index, Text: "z", Known: 6}
					var then []recTurn
					if index == 3 && 1 <= ballot && ballot <= 8 {
						then = []recTurn{knows(3), writes("3:a 5:b " + count(ballot) + ":z 8:")}
					}
					wantTakes(t, []takeCase{{what + ", Index " + count(index) + ", ballot " + count(ballot), make(), m, then}})
				}
			}
		}
	})
	few := turnedRecorder(quietRecorder(), writes("3:a 5:b"))
	last := impl.RecMaxSlots
	full := turnedRecorder(quietRecorder(), func(r *impl.Recorder) { r.Disk.Slots = manySlots(last, 8) })
	wantTakes(t, []takeCase{
		{"no slot there", few, impl.RecMessage{Kind: impl.RecChosen, Ballot: 6, Index: 3, Text: "z"}, []recTurn{knows(3), writes("3:a 5:b 6:z")}},
		{"an empty text", few, impl.RecMessage{Kind: impl.RecChosen, Ballot: 6, Index: 3}, []recTurn{knows(3), writes("3:a 5:b 6:")}},
		{"one too far", few, impl.RecMessage{Kind: impl.RecChosen, Ballot: 6, Index: 4, Text: "z"}, nil},
		{"nothing promised", impl.RecNew(2, 3), impl.RecMessage{Kind: impl.RecChosen, Ballot: 1, Index: 1, Text: "z"}, nil},
		{"nothing promised, Ballot 0", impl.RecNew(2, 3), impl.RecMessage{Kind: impl.RecChosen, Index: 1, Text: "z"}, nil},
		{"the first place", turnedRecorder(impl.RecNew(2, 3), promises(1)), impl.RecMessage{Kind: impl.RecChosen, Ballot: 1, Index: 1, Text: "z"}, []recTurn{knows(1), writes("1:z")}},
		{"the last place", turnedRecorder(full, knows(last-1)), impl.RecMessage{Kind: impl.RecChosen, Ballot: 8, Index: last, Text: "t" + count(last-1)}, []recTurn{knows(last)}},
		{"all known", turnedRecorder(full, knows(last)), impl.RecMessage{Kind: impl.RecChosen, Ballot: 8, Index: last, Text: "z"}, nil},
		{"another text than it took", full, impl.RecMessage{Kind: impl.RecChosen, Ballot: 7, Index: 3, Text: "z"},
			[]recTurn{knows(3), func(r *impl.Recorder) { r.Disk.Slots[2] = impl.RecSlot{Ballot: 7, Text: "z"} }}},
	})
}

// choices holds a RecChosen for each place from one to another, with the leader's own Ballot and the slots' texts.
func choices(to, from, last int) recTurn {
	return func(r *impl.Recorder) {
		for i := from; i <= last; i++ {
			holds(impl.RecMessage{Kind: impl.RecChosen, To: to, Ballot: r.Ballot, Index: i, Text: r.Disk.Slots[i-1].Text})(r)
		}
	}
}

func TestWhatIsNeeded(t *testing.T) {
	r := turnedRecorder(leadingRecorder(), writes("1:a 2:b 3: 4:d 5:e 6:f 7:g 8:h 8:i 8:j 8:k"), knows(9))
	for _, from := range []int{1, 2, 3} {
		for index, last := range []int{0: 0, 1: 5, 2: 6, 3: 7, 4: 8, 5: 9, 6: 9, 7: 9, 8: 9, 9: 9, 10: 0, 11: 0, 12: 0} {
			then := []recTurn{choices(from, index, last)}
			if last == 0 {
				then = nil
			}
			for _, ballot := range []int{0, 5, 8, 9} {
				m := impl.RecMessage{Kind: impl.RecNeed, From: from, Ballot: ballot, Index: index, Known: 3}
				wantTakes(t, []takeCase{{"Index " + count(index), r, m, then}})
				wantTakes(t, []takeCase{{"quiet", quietRecorder(), m, nil}, {"trying", tryingRecorder(), m, nil}})
			}
		}
	}
	wantTakes(t, []takeCase{
		{"nothing known", turnedRecorder(r, knows(0)), impl.RecMessage{Kind: impl.RecNeed, Index: 1}, nil},
		{"the last place", r, impl.RecMessage{Kind: impl.RecNeed, Index: impl.RecMaxSlots}, nil},
		{"below its promise", turnedRecorder(r, promises(90)), impl.RecMessage{Kind: impl.RecNeed, Index: 8}, []recTurn{choices(1, 8, 9)}},
	})
	full := turnedRecorder(r, func(r *impl.Recorder) { r.Disk.Slots = manySlots(impl.RecMaxSlots, 8) }, knows(impl.RecMaxSlots))
	for _, index := range []int{115, 116, 117, 119, 120} {
		m := impl.RecMessage{Kind: impl.RecNeed, From: 3, Index: index}
		wantTakes(t, []takeCase{{"all known, Index " + count(index), full, m, []recTurn{choices(3, index, min(index+4, 120))}}})
	}
}
