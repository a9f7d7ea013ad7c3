package tests

import "loop.example/wharfhall/impl"

// nextBallotByHand tries one ballot behind another; a recorder's are its Number, and so on by Of.
func nextBallotByHand(above, number, of int) int {
	if of < 1 || of > 5 || number < 1 || number > of || above < 0 || above > 1000000 {
		return 0
	}
	for ballot := above + 1; ballot <= 1000000; ballot++ {
		if (ballot-number)%of == 0 {
			return ballot
		}
	}
	return 0
}

// recTickByHand is what chapter 24 says of RecTick.
func recTickByHand(r impl.Recorder) (impl.Recorder, []impl.RecMessage) {
	if !recorderByHand(r) {
		return impl.Recorder{}, nil
	}
	x := copyRecorder(r)
	if !x.Up {
		return x, nil
	}
	x.Safe = copyRecorder(x).Disk
	sent := x.Held
	x.Held, x.Wishes = nil, nil
	for _, text := range r.Wishes {
		if !textByHand(x.Disk.Slots[:x.Disk.Known], text) {
			x.Wishes = append(x.Wishes, text)
		}
	}
	if x.Heard < 1000000 {
		x.Heard++
	}
	if x.Trying && x.Safe.Promise == x.Ballot {
		promiseByHand(&x, x.Number, x.Disk.Slots)
	}
	if x.Lead {
		sent = append(sent, leadByHand(&x)...)
	} else if x.Heard > 4+3*x.Number {
		tryByHand(&x)
	}
	return x, sent
}

func textByHand(slots []impl.RecSlot, text string) bool {
	for _, s := range slots {
		if s.Ballot > 0 && s.Text == text {
			return true
		}
	}
	return false
}

// leadByHand is the part of a tick of one that leads; it gives what is sent behind what was held.
func leadByHand(x *impl.Recorder) []impl.RecMessage {
	for i := range x.Safe.Slots {
		if x.Safe.Slots[i].Ballot == x.Ballot {
			tookByHand(x, x.Number, i+1)
		}
	}
	for _, text := range x.Wishes {
		if !textByHand(x.Disk.Slots, text) && len(x.Disk.Slots) < 120 {
			x.Disk.Slots = append(x.Disk.Slots, impl.RecSlot{Ballot: x.Ballot, Text: text})
		}
	}
	var sent []impl.RecMessage
	for to := 1; to <= x.Of; to++ {
		if to != x.Number {
			sent = append(sent, impl.RecMessage{Kind: 5, From: x.Number, To: to, Ballot: x.Ballot, Known: x.Disk.Known})
		}
	}
	for i, s := range x.Disk.Slots {
		for to := 1; to <= x.Of; to++ {
			if i >= x.Disk.Known && to != x.Number {
				sent = append(sent, impl.RecMessage{Kind: 3, From: x.Number, To: to, Ballot: x.Ballot, Index: i + 1, Text: s.Text})
			}
		}
	}
	return sent
}

// tryByHand is what one does that was too long without a leader.
func tryByHand(x *impl.Recorder) {
	quiets(x)
	x.Heard = 0
	ballot := nextBallotByHand(x.Disk.Promise, x.Number, x.Of)
	if ballot == 0 {
		return
	}
	x.Disk.Promise, x.Ballot, x.Trying = ballot, ballot, true
	for to := 1; to <= x.Of; to++ {
		if to != x.Number {
			holdByHand(x, impl.RecMessage{Kind: 1, To: to, Ballot: ballot})
		}
	}
}

// fallByHand and riseByHand are what chapter 25 says.
func fallByHand(r impl.Recorder) impl.Recorder {
	if !recorderByHand(r) {
		return impl.Recorder{}
	}
	x := copyRecorder(r)
	return impl.Recorder{Number: x.Number, Of: x.Of, Safe: x.Safe, Disk: copyRecorder(r).Safe}
}

func riseByHand(r impl.Recorder) impl.Recorder {
	if !recorderByHand(r) {
		return impl.Recorder{}
	}
	x := copyRecorder(r)
	x.Up = true
	return x
}
