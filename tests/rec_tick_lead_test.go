package tests

import (
	"slices"
	"testing"

	"loop.example/wharfhall/impl"
)

// bareLeading leads under 8, the second of three, with nothing but its disk.
func bareLeading(known int, row string) impl.Recorder {
	return impl.Recorder{Number: 2, Of: 3, Up: true, Disk: disk(8, known, row), Lead: true, Ballot: 8}
}

// textsFrom are those of the slots of a row, from a place on.
func textsFrom(place int, row string) []string {
	var out []string
	for i, s := range slotRow(row) {
		if i+1 >= place {
			out = append(out, s.Text)
		}
	}
	return out
}

// What is written under its Ballot, known or not, itself took; nothing else.
func TestTicksTakeWhatIsSafe(t *testing.T) {
	for _, c := range []struct {
		row   string
		known int
		took  []int
	}{
		{"", 0, nil},
		{"8:a", 0, []int{1}},
		{"8:a", 1, []int{1}},
		{"7:a", 0, nil},
		{"7:a 8:b", 0, []int{2}},
		{"7:a 8:b", 1, []int{2}},
		{"8:a 7:b 0: 8:d 8:", 2, []int{1, 4, 5}},
		{"8:a 8:b 8:c 8:d 8:e", 3, []int{1, 2, 3, 4, 5}},
		{"1:a 2:b 3:c", 2, nil},
		{"0: 0: 8:", 0, []int{3}},
	} {
		r := bareLeading(c.known, c.row)
		takes := func(r *impl.Recorder) {
			for i, index := range c.took {
				acks(i, index, 2)(r)
			}
		}
		sent := append(beats(r, c.known), offers(r, c.known+1, textsFrom(c.known+1, c.row)...)...)
		wantRecTicks(t, []recTickCase{
			{c.row, r, []recTurn{takes}, sent},
			{c.row + ", safe already", turnedRecorder(r, safes), []recTurn{takes}, sent},
		})
		// What was safe and is written no more is not what it took.
		other := turnedRecorder(r, func(r *impl.Recorder) {
			r.Safe = impl.RecDisk{Promise: 8, Slots: manySlots(impl.RecMaxSlots, 8)}
		})
		wantRecTicks(t, []recTickCase{{c.row + ", other safe", other, []recTurn{takes}, sent}})
	}
	all := turnedRecorder(bareLeading(0, ""), func(r *impl.Recorder) { r.Disk.Slots = manySlots(impl.RecMaxSlots, 8) }, knows(impl.RecMaxSlots))
	takesAll := func(r *impl.Recorder) {
		for i := range impl.RecMaxSlots {
			acks(i, i+1, 2)(r)
		}
	}
	wantRecTicks(t, []recTickCase{{"all places", all, []recTurn{takesAll}, beats(all, impl.RecMaxSlots)}})
}

// It may lead under a Ballot below what its disk has promised: its own is what counts.
func TestTicksUnderALowerBallot(t *testing.T) {
	r := turnedRecorder(bareLeading(1, "3:a 8:b 6:c 6:d"), func(r *impl.Recorder) { r.Ballot = 6 }, wishesFor("w"))
	wantRecTicks(t, []recTickCase{{"6 below 8", r, []recTurn{acks(0, 3, 2), acks(1, 4, 2), writes("3:a 8:b 6:c 6:d 6:w")},
		append(beats(r, 1), offers(r, 2, "b", "c", "d", "w")...)}})
}

// Its own part may be the last that was waited for: then Known goes on by all that others took.
func TestTicksThatMakeKnown(t *testing.T) {
	others := func(from ...[]int) recTurn {
		return func(r *impl.Recorder) {
			for i, list := range from {
				if list != nil {
					r.Acks = append(r.Acks, impl.RecAck{Index: i + 1, From: list})
				}
			}
		}
	}
	one, none, two := []int{1}, []int{}, []int{1, 3}
	for _, c := range []struct {
		what  string
		row   string
		known int
		acks  recTurn
		want  int
	}{
		{"one after the other", "8:a 8:b 8:c", 0, others(one, one, one), 3},
		{"from what is known on", "3:a 8:b 8:c", 1, others(nil, one, one), 3},
		{"the first alone", "8:a 8:b 8:c", 0, others(one, none, one), 1},
		{"no ack of the second", "8:a 8:b 8:c", 0, others(one, nil, one), 1},
		{"not the first", "8:a 8:b 8:c", 0, others(none, one, one), 0},
		{"another ballot between", "8:a 7:b 8:c", 0, others(one, two, one), 1},
		{"another ballot first", "7:a 8:b 8:c", 0, others(two, one, one), 0},
		{"nothing taken between", "8:a 0: 8:c", 0, others(one, two, one), 1},
		{"others are most already", "8:a 8:b", 0, others(two, one), 2},
		{"others took what it does not have", "8:a 8:b", 0, others(one, one, two, two), 2},
		{"all known", "8:a 8:b", 2, others(one, one), 2},
	} {
		r := turnedRecorder(bareLeading(c.known, c.row), c.acks)
		took := func(r *impl.Recorder) {
			for i, s := range r.Disk.Slots {
				if s.Ballot == 8 {
					tookNumber(r, i+1)
				}
			}
			r.Disk.Known = c.want
		}
		sent := append(beats(r, c.want), offers(r, c.want+1, textsFrom(c.want+1, c.row)...)...)
		wantRecTicks(t, []recTickCase{{c.what, r, []recTurn{took}, sent}})
	}
}

// tookNumber puts a recorder's own Number into an ack, as one does by hand.
func tookNumber(r *impl.Recorder, index int) {
	for i := range r.Acks {
		if r.Acks[i].Index == index {
			r.Acks[i].From = withByHand(r.Acks[i].From, r.Number)
			return
		}
	}
	r.Acks = append(r.Acks, impl.RecAck{Index: index, From: []int{r.Number}})
	slices.SortFunc(r.Acks, func(a, b impl.RecAck) int { return a.Index - b.Index })
}

// What others took counts for its own Ballot alone.
func TestTicksOfWhatOthersTook(t *testing.T) {
	r := turnedRecorder(bareLeading(0, "8:a 8:b"), func(r *impl.Recorder) {
		r.Acks = []impl.RecAck{{Index: 1, From: []int{1, 3}}, {Index: 2, From: []int{1, 3}}}
	})
	wantRecTicks(t, []recTickCase{{"of its own ballot", r, []recTurn{acks(0, 1, 1, 2, 3), acks(1, 2, 1, 2, 3), knows(2)}, beats(r, 2)}})
	low := turnedRecorder(r, func(r *impl.Recorder) { r.Ballot = 7 })
	wantRecTicks(t, []recTickCase{{"of another ballot", low, nil, append(beats(low, 0), offers(low, 1, "a", "b")...)}})
}

// A wish that stands on the disk already, known or not, of whatever ballot, is not written again.
func TestTicksBringInWishes(t *testing.T) {
	for _, c := range []struct {
		what   string
		row    string
		wishes []string
		want   string
	}{
		{"none", "3:a", nil, "3:a"},
		{"one", "3:a", []string{"w"}, "3:a 8:w"},
		{"in their order", "3:a", []string{"z", "b", "m"}, "3:a 8:z 8:b 8:m"},
		{"all there", "3:a 5:b 8:c", []string{"c", "b"}, "3:a 5:b 8:c"},
		{"some there", "3:a 5:b 8:c 0:", []string{"w", "c", "v", "b"}, "3:a 5:b 8:c 0: 8:w 8:v"},
		{"behind a gap", "3:a 0: 0: 1:d", []string{"d", "w"}, "3:a 0: 0: 1:d 8:w"},
		{"behind empty places", "3:a 0: 8:", []string{"w"}, "3:a 0: 8: 8:w"},
	} {
		r := turnedRecorder(bareLeading(1, c.row), wishesFor(c.wishes...))
		then := []recTurn{func(r *impl.Recorder) {
			for i, s := range slotRow(c.row) {
				if s.Ballot == 8 {
					tookNumber(r, i+1)
				}
			}
		}, writes(c.want)}
		wantRecTicks(t, []recTickCase{{c.what, r, then, append(beats(r, 1), offers(r, 2, textsFrom(2, c.want)...)...)}})
	}
	// One that does not lead brings in nothing.
	for _, make := range []func() impl.Recorder{quietRecorder, fallenRecorder} {
		got, _ := impl.RecTick(make())
		if !sameDisk(got.Disk, make().Disk) {
			t.Errorf("the disk of one that does not lead is now %+v", got.Disk)
		}
	}
}

// Wishes have the places that are left, the first ones first; those that get none stay wishes.
func TestTicksWithLittleRoom(t *testing.T) {
	most := impl.RecMaxSlots
	for _, n := range []int{most, most - 1, most - 2, most - 5, most - impl.RecMaxWishes, most - impl.RecMaxWishes - 1} {
		for _, wishes := range [][]string{{"w"}, {"v", "w", "u"}, {"t3", "w", "t2", "v"}, names(impl.RecMaxWishes)} {
			r := turnedRecorder(bareLeading(0, ""), wishesFor(wishes...), func(r *impl.Recorder) { r.Disk.Slots = manySlots(n, 7) })
			var texts []string
			for i := range n {
				texts = append(texts, "t"+count(i))
			}
			brings := func(r *impl.Recorder) {
				for _, text := range wishes {
					if len(texts) < most && !slices.Contains(texts, text) {
						texts = append(texts, text)
						r.Disk.Slots = append(r.Disk.Slots, impl.RecSlot{Ballot: 8, Text: text})
					}
				}
			}
			want := turnedRecorder(r, everyTick, brings)
			sent := append(beats(r, 0), offers(r, 1, texts...)...)
			wantRecTicked(t, count(n)+" slots, "+count(len(wishes))+" wishes", r, want, sentBy(2, sent))
		}
	}
}

// A wish that this very tick makes known is not written again, and is gone by the next tick.
func TestTicksThatFixAWish(t *testing.T) {
	r := turnedRecorder(bareLeading(0, "8:w"), wishesFor("w", "v"), acks(0, 1, 3))
	wantRecTicks(t, []recTickCase{{"fixed now", r, []recTurn{knows(1), acks(0, 1, 2, 3), writes("8:w 8:v")},
		append(beats(r, 1), offers(r, 2, "v")...)}})
	next, _ := impl.RecTick(r)
	wantRecTicks(t, []recTickCase{{"fixed before", next, []recTurn{wishesFor("v"), acks(1, 2, 2)}, append(beats(r, 1), offers(r, 2, "v")...)}})
}

// All beats go ahead of all accepts, and all of a place ahead of those of the next; each to all others, in order, and not to itself.
func TestWhatALeaderSends(t *testing.T) {
	for of := 1; of <= impl.RecMaxRecorders; of++ {
		for number := 1; number <= of; number++ {
			for n := range 5 {
				for known := range n + 1 {
					r := turnedRecorder(bareLeading(known, ""), isNumber(number, of), func(r *impl.Recorder) { r.Disk.Slots = manySlots(n, 7) })
					want := turnedRecorder(r, everyTick)
					var sent []impl.RecMessage
					for to := 1; to <= of; to++ {
						if to != number {
							sent = append(sent, impl.RecMessage{Kind: 5, From: number, To: to, Ballot: 8, Known: known})
						}
					}
					for index := known + 1; index <= n; index++ {
						for to := 1; to <= of; to++ {
							if to != number {
								sent = append(sent, impl.RecMessage{Kind: 3, From: number, To: to, Ballot: 8, Index: index, Text: "t" + count(index-1)})
							}
						}
					}
					wantRecTicked(t, count(number)+" of "+count(of), r, want, sent)
				}
			}
		}
	}
	// As much as there can be: all places to four others, behind as much as can be held.
	full := turnedRecorder(bareLeading(0, ""), isNumber(3, 5), heldTimes(impl.RecMaxHeld), func(r *impl.Recorder) { r.Disk.Slots = manySlots(impl.RecMaxSlots, 7) })
	got, sent := impl.RecTick(full)
	if len(sent) != impl.RecMaxHeld+4+4*impl.RecMaxSlots || len(got.Held) != 0 {
		t.Errorf("%d are sent, and %d held", len(sent), len(got.Held))
	}
	want, out := recTickByHand(full)
	wantRecTicked(t, "full", full, want, out)
}
