package tests

import (
	"testing"

	"loop.example/wharfhall/impl"
)

// tryingOf tries under the ballot 8, with so many of so many who promised; it is the last one.
func tryingOf(of int, yes ...int) impl.Recorder {
	return impl.Recorder{Number: of, Of: of, Up: true, Disk: disk(8, 2, "3:a 5:b 0: 8:d"), Trying: true, Ballot: 8, Yes: yes, Heard: 6}
}

// leads is what a promise makes of one that tries, beside its slots.
func leads(r *impl.Recorder) {
	r.Lead, r.Trying, r.Yes, r.Best, r.Acks = true, false, nil, nil, nil
}

func says(numbers ...int) recTurn {
	return func(r *impl.Recorder) { r.Yes = numbers }
}

func merges(row string) recTurn {
	return func(r *impl.Recorder) { r.Best = slotRow(row) }
}

func TestPromisesThatAreNotWaitedFor(t *testing.T) {
	slots := slotRow("8:p 8:q 8:r")
	for _, ballot := range []int{0, 1, 7, 8, 9, impl.RecMaxBallot} {
		m := impl.RecMessage{Kind: impl.RecPromised, From: 3, Ballot: ballot, Slots: slots}
		wantTakes(t, []takeCase{{"quiet", quietRecorder(), m, nil}, {"leading", leadingRecorder(), m, nil}})
		if ballot != 8 {
			wantTakes(t, []takeCase{{"trying under another ballot", tryingRecorder(), m, nil}})
		}
	}
	r := turnedRecorder(tryingRecorder(), func(r *impl.Recorder) { r.Ballot = 5 })
	for _, ballot := range []int{4, 6, 7, 8} {
		wantTakes(t, []takeCase{{"trying, and more promised", r, impl.RecMessage{Kind: impl.RecPromised, Ballot: ballot, Slots: slots}, nil}})
	}
}

// More than half of Of are 1 of 1, 2 of 2 and 3, 3 of 4 and 5.
func TestPromisesThatAreMost(t *testing.T) {
	for _, c := range []struct {
		of   int
		yes  []int
		from int
		then []recTurn
	}{
		{1, nil, 1, []recTurn{leads}},
		{2, nil, 1, []recTurn{says(1)}},
		{2, nil, 2, []recTurn{says(2)}},
		{2, []int{2}, 1, []recTurn{leads}},
		{2, []int{1}, 2, []recTurn{leads}},
		{2, []int{1}, 1, []recTurn{says(1)}},
		{3, nil, 3, []recTurn{says(3)}},
		{3, []int{3}, 1, []recTurn{leads}},
		{3, []int{1}, 2, []recTurn{leads}},
		{3, []int{2}, 2, []recTurn{says(2)}},
		{4, nil, 2, []recTurn{says(2)}},
		{4, []int{4}, 2, []recTurn{says(2, 4)}},
		{4, []int{2, 4}, 2, []recTurn{says(2, 4)}},
		{4, []int{2, 4}, 4, []recTurn{says(2, 4)}},
		{4, []int{2, 4}, 3, []recTurn{leads}},
		{4, []int{2, 4}, 1, []recTurn{leads}},
		{5, nil, 5, []recTurn{says(5)}},
		{5, []int{3}, 5, []recTurn{says(3, 5)}},
		{5, []int{3}, 1, []recTurn{says(1, 3)}},
		{5, []int{1, 5}, 5, []recTurn{says(1, 5)}},
		{5, []int{1, 5}, 3, []recTurn{leads}},
		{5, []int{4, 5}, 1, []recTurn{leads}},
		// Who has most already, and does not lead yet, does so by whoever promises, be it again.
		{3, []int{1, 2, 3}, 2, []recTurn{leads}},
		{5, []int{1, 2, 3, 4}, 5, []recTurn{leads}},
		{1, []int{1}, 1, []recTurn{leads}},
	} {
		m := impl.RecMessage{Kind: impl.RecPromised, From: c.from, Ballot: 8}
		what := count(c.from) + " promises one of " + count(c.of)
		wantTakes(t, []takeCase{{what, tryingOf(c.of, c.yes...), m, c.then}})
	}
}

// As long as they are not most, the disk is left alone, whatever they took.
func TestPromisesThatAreMerged(t *testing.T) {
	for _, c := range []struct{ best, slots, want string }{
		{"", "", ""},
		{"", "0: 4:x", "0: 4:x"},
		{"4:x", "", "4:x"},
		{"4:x", "4:y", "4:x"},
		{"4:x", "5:y", "5:y"},
		{"5:x", "4:y", "5:x"},
		{"5:x 0:", "4:y 0: 0: 9:z", "5:x 0: 0: 9:z"},
		{"5:x 0: 0: 9:z", "4:y 1:u", "5:x 1:u 0: 9:z"},
		{"1:x", "1000000:y", "1000000:y"},
	} {
		m := impl.RecMessage{Kind: impl.RecPromised, From: 4, Ballot: 8, Slots: slotRow(c.slots)}
		five := turnedRecorder(tryingOf(5, 2), merges(c.best))
		wantTakes(t, []takeCase{{c.best + " and " + c.slots, five, m, []recTurn{says(2, 4), merges(c.want)}}})
		again := turnedRecorder(tryingOf(5, 2, 4), merges(c.best))
		wantTakes(t, []takeCase{{c.best + " and, of one who promised already, " + c.slots, again, m, []recTurn{merges(c.want)}}})
	}
}

// Places that are known stay as they are; behind them all that was merged is brought in under its own Ballot, gaps as empty texts.
func TestWhatALeaderBringsIn(t *testing.T) {
	for _, c := range []struct{ best, slots, want string }{
		{"", "", "3:a 5:b 0: 8:d"},
		{"", "9:x", "3:a 5:b 0: 8:d"},
		{"", "9:x 9:y", "3:a 5:b 0: 8:d"},
		{"9:x 9:y", "", "3:a 5:b 0: 8:d"},
		{"", "9:x 9:y 9:z", "3:a 5:b 8:z 8:d"},
		{"", "0: 0: 2:z", "3:a 5:b 8:z 8:d"},
		{"", "0: 0: 0:", "3:a 5:b 8: 8:d"},
		{"0: 0: 1:u 1:v", "0: 0: 2:z", "3:a 5:b 8:z 8:v"},
		{"0: 0: 3:u 1:v", "0: 0: 2:z", "3:a 5:b 8:u 8:v"},
		{"0: 0: 3:u 1:v", "0: 0: 3:z 2:w", "3:a 5:b 8:u 8:w"},
		{"", "1:p 1:q 0: 0: 0: 1:z", "3:a 5:b 8: 8: 8: 8:z"},
		{"1:p 1:q 0: 0: 0: 1:z", "4:r", "3:a 5:b 8: 8: 8: 8:z"},
		{"", "1:p 1:q 0: 1000000:z 4:", "3:a 5:b 8: 8:z 8:"},
	} {
		r := turnedRecorder(tryingOf(3, 3), merges(c.best))
		m := impl.RecMessage{Kind: impl.RecPromised, From: 1, Ballot: 8, Slots: slotRow(c.slots)}
		wantTakes(t, []takeCase{{c.best + " and " + c.slots, r, m, []recTurn{leads, writes(c.want)}}})
	}
	r := turnedRecorder(tryingOf(3, 3), knows(0), writes(""))
	full := impl.RecMessage{Kind: impl.RecPromised, From: 1, Ballot: 8, Slots: manySlots(impl.RecMaxSlots, 4)}
	bringsAll := func(r *impl.Recorder) { r.Disk.Slots = manySlots(impl.RecMaxSlots, 8) }
	wantTakes(t, []takeCase{{"as many as there are", r, full, []recTurn{leads, bringsAll}}})
	// What it was promised more than its own ballot is of no matter: it leads under its own.
	low := turnedRecorder(tryingOf(3, 3), promises(9), func(r *impl.Recorder) { r.Ballot = 6 })
	m := impl.RecMessage{Kind: impl.RecPromised, From: 1, Ballot: 6, Slots: slotRow("1:p 1:q 7:z")}
	wantTakes(t, []takeCase{{"under a ballot below the promise", low, m, []recTurn{leads, writes("3:a 5:b 6:z 8:d")}}})
}
