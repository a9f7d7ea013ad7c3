package tests

import (
	"slices"
	"strings"
	"testing"

	"loop.example/wharfhall/impl"
)

func accepts(to, ballot, index int) recTurn {
	return holds(impl.RecMessage{Kind: impl.RecAccepted, To: to, Ballot: ballot, Index: index})
}

// A ballot below the promise is refused, whatever else the message tells.
func TestAcceptsThatAreRefused(t *testing.T) {
	eachUp(func(what string, make func() impl.Recorder) {
		for ballot := range 8 {
			for from := 1; from <= 3; from++ {
				for _, index := range []int{0, 1, 2, 3, 4, 5, impl.RecMaxSlots} {
					m := impl.RecMessage{Kind: impl.RecAccept, From: from, Ballot: ballot, Index: index, Text: "z"}
					wantTakes(t, []takeCase{{what + ", ballot " + count(ballot), make(), m, []recTurn{refuses(from, 8)}}})
				}
			}
		}
	})
}

func TestAcceptsThatAreNothing(t *testing.T) {
	eachUp(func(what string, make func() impl.Recorder) {
		for _, ballot := range []int{8, 9, impl.RecMaxBallot} {
			wantTakes(t, []takeCase{
				{what + ", Index 0", make(), impl.RecMessage{Kind: impl.RecAccept, Ballot: ballot, Text: "z"}, nil},
				{what + ", from itself", make(), impl.RecMessage{Kind: impl.RecAccept, From: 2, Ballot: ballot, Index: 3, Text: "z"}, nil},
				{what + ", from itself, known", make(), impl.RecMessage{Kind: impl.RecAccept, From: 2, Ballot: ballot, Index: 1, Text: "z"}, nil},
			})
		}
	})
	fresh := turnedRecorder(impl.RecNew(2, 3), func(r *impl.Recorder) { r.Heard = 4 })
	for _, index := range []int{0, 1, 2, impl.RecMaxSlots} {
		m := impl.RecMessage{Kind: impl.RecAccept, Index: index, Text: "z"}
		wantTakes(t, []takeCase{{"Ballot 0 where nothing is promised", fresh, m, nil}})
	}
}

func TestAcceptsThatAreTaken(t *testing.T) {
	for _, c := range []struct {
		index int
		text  string
		want  string
	}{
		{1, "z", "3:a 5:b 0: 8:"},
		{2, "z", "3:a 5:b 0: 8:"},
		{3, "z", "3:a 5:b B:z 8:"},
		{3, "", "3:a 5:b B: 8:"},
		{4, "z", "3:a 5:b 0: B:z"},
		{5, "z", "3:a 5:b 0: 8: B:z"},
		{5, "", "3:a 5:b 0: 8: B:"},
		{6, "z", "3:a 5:b 0: 8: 0: B:z"},
		{9, "z", "3:a 5:b 0: 8: 0: 0: 0: 0: B:z"},
	} {
		for _, ballot := range []int{8, 9, 20, impl.RecMaxBallot} {
			for _, from := range []int{1, 3} {
				want := writes(strings.ReplaceAll(c.want, "B", count(ballot)))
				m := impl.RecMessage{Kind: impl.RecAccept, From: from, Ballot: ballot, Index: c.index, Text: c.text}
				what := "Index " + count(c.index) + ", Ballot " + count(ballot)
				then := []recTurn{promises(ballot), hears, want, accepts(from, ballot, c.index)}
				away := append(slices.Clone(then), quiets)
				if ballot == 8 { // That is the ballot under which they lead, and try, themselves.
					away = then
				}
				wantTakes(t, []takeCase{
					{what + ", quiet", quietRecorder(), m, then},
					{what + ", trying", tryingRecorder(), m, away},
					{what + ", leading", leadingRecorder(), m, away},
				})
			}
		}
	}
}

// Its own Ballot may be below the promise: an accept of the promised one then ends what it does, too.
func TestAcceptsOfAnotherBallotThanItsOwn(t *testing.T) {
	for _, make := range []func() impl.Recorder{leadingRecorder, tryingRecorder} {
		r := turnedRecorder(make(), func(r *impl.Recorder) { r.Ballot = 5 })
		wantTakes(t, []takeCase{
			{"the promised one", r, impl.RecMessage{Kind: impl.RecAccept, Ballot: 8, Index: 3, Text: "z"},
				[]recTurn{quiets, hears, writes("3:a 5:b 8:z 8:"), accepts(1, 8, 3)}},
			{"its own one", r, impl.RecMessage{Kind: impl.RecAccept, Ballot: 5, Index: 3, Text: "z"}, []recTurn{refuses(1, 8)}},
		})
	}
}

func TestAcceptsOfTheLastPlace(t *testing.T) {
	last := impl.RecMaxSlots
	m := impl.RecMessage{Kind: impl.RecAccept, Ballot: 8, Index: last, Text: long(impl.RecMaxText)}
	grows := func(r *impl.Recorder) {
		r.Disk.Slots = append(r.Disk.Slots, make([]impl.RecSlot, last-len(r.Disk.Slots))...)
		r.Disk.Slots[last-1] = impl.RecSlot{Ballot: 8, Text: long(impl.RecMaxText)}
	}
	full := turnedRecorder(quietRecorder(), func(r *impl.Recorder) { r.Disk.Slots = manySlots(last, 7) })
	wantTakes(t, []takeCase{
		{"behind few", quietRecorder(), m, []recTurn{hears, grows, accepts(1, 8, last)}},
		{"behind none", turnedRecorder(quietRecorder(), knows(0), writes("")), m, []recTurn{hears, grows, accepts(1, 8, last)}},
		{"in the place of another", full, m, []recTurn{hears, grows, accepts(1, 8, last)}},
		{"known already", turnedRecorder(full, knows(last)), m, []recTurn{hears, accepts(1, 8, last)}},
		{"behind all that is known", turnedRecorder(full, knows(last-1)), m, []recTurn{hears, grows, accepts(1, 8, last)}},
	})
}

// ackedLeader leads under 8 with all that can keep a place from being known: an
// ack too few at 3, another ballot at 5, and no slot at 7.
func ackedLeader() impl.Recorder {
	r := leadingRecorder()
	r.Disk = disk(8, 2, "3:a 5:b 8:c 8:d 7:e 8:f")
	r.Acks = []impl.RecAck{{Index: 3, From: []int{2}}, {Index: 4, From: []int{1, 3}}, {Index: 5, From: []int{1, 2, 3}}, {Index: 6, From: []int{2, 3}}}
	return r
}

// acks sets who took a place, at a place of the acks that is there or is to be made.
func acks(at, index int, from ...int) recTurn {
	return func(r *impl.Recorder) {
		if at == len(r.Acks) || r.Acks[at].Index != index {
			r.Acks = slices.Insert(r.Acks, at, impl.RecAck{Index: index})
		}
		r.Acks[at].From = from
	}
}

func TestAcceptedThatIsNothing(t *testing.T) {
	for _, ballot := range []int{0, 1, 7, 8, 9, impl.RecMaxBallot} {
		for _, index := range []int{0, 1, 3, 4, 120} {
			m := impl.RecMessage{Kind: impl.RecAccepted, From: 1, Ballot: ballot, Index: index}
			wantTakes(t, []takeCase{{"quiet", quietRecorder(), m, nil}, {"trying", tryingRecorder(), m, nil}})
			if ballot != 8 || index == 0 {
				wantTakes(t, []takeCase{{"leading", ackedLeader(), m, nil}})
			}
		}
	}
}

func TestAcceptedThatCounts(t *testing.T) {
	for _, c := range []struct {
		what        string
		from, index int
		then        []recTurn
	}{
		{"who took it already", 2, 3, nil},
		{"who took another one already", 1, 4, nil},
		{"one more of another one", 2, 4, []recTurn{acks(1, 4, 1, 2, 3)}},
		{"most, and on to where another ballot is", 1, 3, []recTurn{acks(0, 3, 1, 2), knows(4)}},
		{"most, by the last one", 3, 3, []recTurn{acks(0, 3, 2, 3), knows(4)}},
		{"what is known already", 1, 1, []recTurn{acks(0, 1, 1)}},
		{"what is known already, the last one", 3, 2, []recTurn{acks(0, 2, 3)}},
		{"of another ballot", 1, 5, nil},
		{"behind that", 1, 6, []recTurn{acks(3, 6, 1, 2, 3)}},
		{"no slot", 1, 7, []recTurn{acks(4, 7, 1)}},
		{"the last place", 3, impl.RecMaxSlots, []recTurn{acks(4, impl.RecMaxSlots, 3)}},
	} {
		m := impl.RecMessage{Kind: impl.RecAccepted, From: c.from, Ballot: 8, Index: c.index}
		wantTakes(t, []takeCase{{c.what, ackedLeader(), m, c.then}})
	}
	noAcks := turnedRecorder(ackedLeader(), func(r *impl.Recorder) { r.Acks = nil })
	wantTakes(t, []takeCase{
		{"the first ack", noAcks, impl.RecMessage{Kind: impl.RecAccepted, From: 3, Ballot: 8, Index: 3}, []recTurn{acks(0, 3, 3)}},
		{"of itself", noAcks, impl.RecMessage{Kind: impl.RecAccepted, From: 2, Ballot: 8, Index: 4}, []recTurn{acks(0, 4, 2)}},
	})
}

// Each of Acks is looked at, though the one that has come is not what was waited for.
func TestAcceptedLooksAtAllAcks(t *testing.T) {
	ready := turnedRecorder(ackedLeader(), acks(0, 3, 1, 2))
	far := impl.RecMessage{Kind: impl.RecAccepted, From: 3, Ballot: 8, Index: 90}
	wantTakes(t, []takeCase{
		{"another place", ready, far, []recTurn{acks(4, 90, 3), knows(4)}},
		{"all of one ballot", turnedRecorder(ready, writes("3:a 5:b 8:c 8:d 8:e 8:f")), far, []recTurn{acks(4, 90, 3), knows(6)}},
		{"no slots", turnedRecorder(ready, writes("3:a 5:b")), far, []recTurn{acks(4, 90, 3)}},
		{"one slot", turnedRecorder(ready, writes("3:a 5:b 8:c")), far, []recTurn{acks(4, 90, 3), knows(3)}},
		{"nothing taken", turnedRecorder(ready, writes("3:a 5:b 0: 8:d")), far, []recTurn{acks(4, 90, 3)}},
		{"a gap in the acks", turnedRecorder(ready, func(r *impl.Recorder) { r.Acks = slices.Delete(r.Acks, 1, 2) }), far, []recTurn{acks(3, 90, 3), knows(3)}},
		{"all known", turnedRecorder(ready, knows(6), writes("3:a 5:b 8:c 8:d 7:e 8:f")), far, []recTurn{acks(4, 90, 3)}},
	})
}

func TestAcceptedByMost(t *testing.T) {
	for of, most := range map[int]int{1: 1, 2: 2, 3: 2, 4: 3, 5: 3} {
		r := impl.Recorder{Number: of, Of: of, Up: true, Disk: disk(8, 0, "8:a"), Lead: true, Ballot: 8}
		for n := of; n >= 1; n-- {
			took := r.Acks
			r = impl.RecTake(r, impl.RecMessage{Kind: impl.RecAccepted, From: n, To: of, Ballot: 8, Index: 1})
			if known := r.Disk.Known == 1; known != (of-n+1 >= most) {
				t.Errorf("%d of %d, behind %v: Known %d", of-n+1, of, took, r.Disk.Known)
			}
		}
		if len(r.Acks) != 1 || len(r.Acks[0].From) != of || !slices.IsSorted(r.Acks[0].From) {
			t.Errorf("all of %d took it, and the acks are %v", of, r.Acks)
		}
	}
}
