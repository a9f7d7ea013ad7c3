package tests

import (
	"testing"

	"loop.example/wharfhall/impl"
)

// safes makes the disk safe, as far as it is written.
func safes(r *impl.Recorder) {
	r.Safe = copyRecorder(*r).Disk
}

// bareTrying tries under 8 with an empty disk, with so many of so many who promised; no wishes, nothing held.
func bareTrying(number, of int, yes ...int) impl.Recorder {
	return impl.Recorder{Number: number, Of: of, Up: true, Disk: disk(8, 0, ""), Trying: true, Ballot: 8, Yes: yes}
}

// More than half of Of are 1 of 1, 2 of 2 and 3, 3 of 4 and 5; its own promise is one of them, and counts once.
func TestTicksPromiseItself(t *testing.T) {
	for _, c := range []struct {
		number, of int
		yes        []int
		then       []recTurn
	}{
		{1, 1, nil, []recTurn{leads}},
		{1, 1, []int{1}, []recTurn{leads}},
		{1, 2, nil, []recTurn{says(1)}},
		{2, 2, nil, []recTurn{says(2)}},
		{2, 2, []int{2}, []recTurn{says(2)}},
		{2, 2, []int{1}, []recTurn{leads}},
		{1, 2, []int{2}, []recTurn{leads}},
		{2, 3, nil, []recTurn{says(2)}},
		{2, 3, []int{2}, []recTurn{says(2)}},
		{2, 3, []int{1}, []recTurn{leads}},
		{2, 3, []int{3}, []recTurn{leads}},
		{2, 3, []int{1, 3}, []recTurn{leads}},
		{3, 4, nil, []recTurn{says(3)}},
		{3, 4, []int{1}, []recTurn{says(1, 3)}},
		{3, 4, []int{4}, []recTurn{says(3, 4)}},
		{3, 4, []int{1, 3}, []recTurn{says(1, 3)}},
		{3, 4, []int{1, 4}, []recTurn{leads}},
		{3, 5, []int{5}, []recTurn{says(3, 5)}},
		{3, 5, []int{3, 5}, []recTurn{says(3, 5)}},
		{3, 5, []int{1, 5}, []recTurn{leads}},
		{5, 5, []int{1, 2}, []recTurn{leads}},
		{5, 5, []int{1, 2, 3, 4, 5}, []recTurn{leads}},
	} {
		what := count(c.number) + " of " + count(c.of)
		r := bareTrying(c.number, c.of, c.yes...)
		lead := impl.Recorder{Number: c.number, Of: c.of, Ballot: 8}
		var sent []impl.RecMessage
		if turnedRecorder(r, c.then...).Lead {
			sent = beats(lead, 0)
		}
		wantRecTicks(t, []recTickCase{{what, r, c.then, sent}})
	}
}

// It is this tick's safe disk that counts: what was safe before is of no matter, nor is a promise of another ballot.
func TestTicksThatPromiseNothing(t *testing.T) {
	for _, promised := range []int{9, 10, impl.RecMaxBallot} {
		for _, yes := range [][]int{nil, {1}, {1, 3}, {1, 2, 3}} {
			r := turnedRecorder(bareTrying(2, 3, yes...), promises(promised))
			wantRecTicks(t, []recTickCase{
				{"it promised more", r, nil, nil},
				{"it promised more, its ballot was safe", turnedRecorder(r, func(r *impl.Recorder) { r.Safe.Promise = 8 }), nil, nil},
			})
		}
	}
	for _, safe := range []impl.RecDisk{{}, disk(7, 0, ""), disk(8, 0, ""), disk(9, 1, "9:x"), disk(impl.RecMaxBallot, 0, "0: 9:x")} {
		r := turnedRecorder(bareTrying(2, 3), func(r *impl.Recorder) { r.Safe = safe })
		wantRecTicks(t, []recTickCase{{"whatever was safe", r, []recTurn{says(2)}, nil}})
	}
	// One that is quiet, or leads, does not promise.
	quiet := turnedRecorder(quietRecorder(), wishesFor())
	lead := turnedRecorder(leadingRecorder(), wishesFor(), writes("3:a 5:b"))
	wantRecTicks(t, []recTickCase{
		{"quiet", quiet, nil, nil},
		{"leading", lead, nil, beats(lead, 2)},
	})
}

// Its own slots are merged behind what others took: of two of one ballot, the first stays.
func TestTicksMergeWhatItTook(t *testing.T) {
	for _, c := range []struct{ best, want string }{
		{"", "3:a 5:b 0: 8:d"},
		{"3:x", "3:x 5:b 0: 8:d"},
		{"2:x 6:y", "3:a 6:y 0: 8:d"},
		{"0: 0: 1:z 8:u", "3:a 5:b 1:z 8:u"},
		{"0: 0: 0: 9:u 1:v", "3:a 5:b 0: 9:u 1:v"},
	} {
		five := turnedRecorder(tryingOf(5, 2), merges(c.best))
		wantRecTicks(t, []recTickCase{{c.best, five, []recTurn{says(2, 5), merges(c.want)}, nil}})
	}
	// The slots that it tells itself are those that are written.
	r := turnedRecorder(tryingOf(5, 2), func(r *impl.Recorder) { r.Safe = disk(9, 1, "9:safe 9:safe 9:safe 9:safe 9:safe") })
	wantRecTicks(t, []recTickCase{{"safe before", r, []recTurn{says(2, 5), merges("3:a 5:b 0: 8:d")}, nil}})
}

// Who comes to lead by a tick leads in that tick: it takes what is safe under its Ballot, brings in wishes, and tells the others.
func TestTicksThatComeToLead(t *testing.T) {
	r := turnedRecorder(tryingOf(3, 1), merges("7:x 7:y 4:c"), wishesFor("w", "c", "b", "d", "v"))
	lead := turnedRecorder(r, leads)
	wantRecTicks(t, []recTickCase{{"with wishes", r,
		[]recTurn{leads, acks(0, 4, 3), writes("3:a 5:b 8:c 8:d 8:w 8:v"), wishesFor("w", "c", "d", "v")},
		append(beats(lead, 2), offers(lead, 3, "c", "d", "w", "v")...)}})
	// One of one knows at once what was safe under its Ballot, and what it writes anew by the next tick alone.
	one := turnedRecorder(bareTrying(1, 1), writes("8:a 8:b 3:c"), wishesFor("a", "w"))
	wantRecTicks(t, []recTickCase{{"alone", one,
		[]recTurn{leads, knows(2), acks(0, 1, 1), acks(1, 2, 1), writes("8:a 8:b 8:c 8:w")}, nil}})
	next, _ := impl.RecTick(one)
	wantRecTicks(t, []recTickCase{{"alone, and then", next,
		[]recTurn{wishesFor("w"), knows(4), acks(2, 3, 1), acks(3, 4, 1)}, nil}})
	// However long it has heard of nobody: it leads, and does not try anew.
	late := turnedRecorder(bareTrying(2, 3, 1), heardTimes(500))
	wantRecTicks(t, []recTickCase{{"at last", late, []recTurn{leads}, beats(turnedRecorder(late, leads), 0)}})
}

// Its patience is 4 + 3 * Number ticks: with that many it still waits, with one more it tries.
func TestPatience(t *testing.T) {
	for of := 1; of <= impl.RecMaxRecorders; of++ {
		for number := 1; number <= of; number++ {
			most := 4 + 3*number
			next := nextBallotByHand(8, number, of)
			what := count(number) + " of " + count(of)
			quiet := impl.Recorder{Number: number, Of: of, Up: true, Disk: disk(8, 1, "3:a 8:b"), Wishes: []string{"w"}}
			for _, heard := range []int{0, 1, most - 2, most - 1} {
				wantRecTicks(t, []recTickCase{{what + ", and it waits", turnedRecorder(quiet, heardTimes(heard)), nil, nil}})
			}
			for _, heard := range []int{most, most + 1, most + 100, impl.RecMaxBallot - 1, impl.RecMaxBallot} {
				wantRecTicks(t, []recTickCase{{what + ", and it tries", turnedRecorder(quiet, heardTimes(heard)), []recTurn{tries(next)}, nil}})
			}
		}
	}
}

// One that has tried in vain tries anew, with nothing of what it was promised; what it held goes ahead, and what it asks for waits.
func TestTicksThatTryAnew(t *testing.T) {
	trying := turnedRecorder(tryingOf(3), merges("7:x 9:y"), wishesFor("w"), heardTimes(13))
	quiet := turnedRecorder(quietRecorder(), wishesFor("w"), heardTimes(10))
	behind := turnedRecorder(tryingRecorder(), wishesFor("w"), promises(9), heardTimes(10))
	wantRecTicks(t, []recTickCase{
		{"one that has promised itself only now", trying, []recTurn{tries(9)}, nil},
		{"one that nobody promised", turnedRecorder(trying, says(), merges("")), []recTurn{tries(9)}, nil},
		{"one that waits one tick more", turnedRecorder(trying, heardTimes(12)), []recTurn{says(3), merges("7:x 9:y 0: 8:d")}, nil},
		{"one that is quiet, and held something", quiet, []recTurn{tries(11)}, nil},
		{"one that promised another one more", behind, []recTurn{tries(11)}, nil},
	})
	got, sent := impl.RecTick(quiet)
	if !sameSent(sent, quiet.Held) || len(got.Held) != 2 || got.Safe.Promise != 8 || got.Disk.Promise != 11 {
		t.Errorf("%s, %s", recorderTold(got), sentTold(sent))
	}
	// However much it held, there is room for what it asks for.
	full := turnedRecorder(impl.RecNew(1, 5), heldTimes(impl.RecMaxHeld), heardTimes(7))
	wantRecTicks(t, []recTickCase{{"full", full, []recTurn{tries(1)}, nil}})
}

// Where there is no ballot left, one is quiet, and waits anew.
func TestTicksWithoutANextBallot(t *testing.T) {
	most := impl.RecMaxBallot
	ends := func(r *impl.Recorder) { quiets(r); r.Heard = 0 }
	for of := 1; of <= impl.RecMaxRecorders; of++ {
		for number := 1; number <= of; number++ {
			for promised := most - of - 1; promised <= most; promised++ {
				what := count(number) + " of " + count(of) + " that promised " + count(promised)
				r := impl.Recorder{Number: number, Of: of, Up: true, Disk: impl.RecDisk{Promise: promised}, Heard: 4 + 3*number}
				then := ends
				if next := nextBallotByHand(promised, number, of); next > 0 {
					then = tries(next)
				}
				low := turnedRecorder(r, func(r *impl.Recorder) { r.Trying, r.Ballot = true, 1 })
				wantRecTicks(t, []recTickCase{{what, r, []recTurn{then}, nil}, {what + ", trying", low, []recTurn{then}, nil}})
			}
		}
	}
	last := turnedRecorder(bareTrying(2, 3), promises(most), func(r *impl.Recorder) { r.Ballot = most }, heardTimes(500), wishesFor("w"))
	wantRecTicks(t, []recTickCase{{"the last one, in vain", last, []recTurn{ends}, nil}})
}

// A new one asks for promises when its own is safe, counts itself then, and not before.
func TestWhatIsToldWhen(t *testing.T) {
	r := turnedRecorder(impl.RecNew(1, 3), heardTimes(7), wishesFor("w"))
	r, sent := impl.RecTick(r)
	if len(sent) != 0 || r.Safe.Promise != 0 || r.Disk.Promise != 1 || len(r.Yes) != 0 || len(r.Held) != 2 {
		t.Fatalf("it asks before its promise is safe: %s, %s", recorderTold(r), sentTold(sent))
	}
	r, sent = impl.RecTick(r)
	want := []impl.RecMessage{{Kind: impl.RecPrepare, From: 1, To: 2, Ballot: 1}, {Kind: impl.RecPrepare, From: 1, To: 3, Ballot: 1}}
	if !sameSent(sent, want) || r.Safe.Promise != 1 || len(r.Yes) != 1 || !r.Trying {
		t.Fatalf("it asks when its promise is safe: %s, %s", recorderTold(r), sentTold(sent))
	}
	r = impl.RecTake(r, impl.RecMessage{Kind: impl.RecPromised, From: 3, To: 1, Ballot: 1})
	if !r.Lead {
		t.Fatalf("it leads: %s", recorderTold(r))
	}
	// The text is sent in the tick in which it is written, and its own part counts a tick later.
	r, sent = impl.RecTick(r)
	if !sameSent(sent, sentBy(1, append(beats(r, 0), offers(r, 1, "w")...))) || len(r.Acks) != 0 || len(r.Safe.Slots) != 0 || len(r.Disk.Slots) != 1 {
		t.Fatalf("it brings in a text: %s, %s", recorderTold(r), sentTold(sent))
	}
	r = impl.RecTake(r, impl.RecMessage{Kind: impl.RecAccepted, From: 2, To: 1, Ballot: 1, Index: 1})
	if r.Disk.Known != 0 {
		t.Fatalf("one of three is not most: %s", recorderTold(r))
	}
	r, sent = impl.RecTick(r)
	if r.Disk.Known != 1 || r.Safe.Known != 0 || len(r.Wishes) != 1 || !sameSent(sent, sentBy(1, beats(r, 1))) {
		t.Fatalf("it is fixed by its own safe slot: %s, %s", recorderTold(r), sentTold(sent))
	}
	r, sent = impl.RecTick(r)
	if r.Safe.Known != 1 || len(r.Wishes) != 0 || !sameSent(sent, sentBy(1, beats(r, 1))) {
		t.Fatalf("a wish that was known when the tick began is gone: %s, %s", recorderTold(r), sentTold(sent))
	}
}
