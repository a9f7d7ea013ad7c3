package tests

import (
	"testing"

	"loop.example/wharfhall/impl"
)

// Whatever it does, and whoever asks, be it itself: only the ballot decides.
func TestPrepares(t *testing.T) {
	eachUp(func(what string, make func() impl.Recorder) {
		for from := 1; from <= 3; from++ {
			for ballot := range 9 {
				m := impl.RecMessage{Kind: impl.RecPrepare, From: from, Ballot: ballot}
				wantTakes(t, []takeCase{{what + ", not above the promise: " + count(ballot), make(), m, []recTurn{refuses(from, 8)}}})
			}
			for _, ballot := range []int{9, 10, 77, impl.RecMaxBallot} {
				m := impl.RecMessage{Kind: impl.RecPrepare, From: from, Ballot: ballot}
				promised := impl.RecMessage{Kind: impl.RecPromised, To: from, Ballot: ballot, Slots: slotRow("3:a 5:b 0: 8:")}
				wantTakes(t, []takeCase{{what + ", above the promise: " + count(ballot), make(), m, []recTurn{promises(ballot), quiets, hears, holds(promised)}}})
			}
		}
	})
	most := impl.RecMaxBallot
	wantTakes(t, []takeCase{
		{"nothing promised, and nothing asked for", impl.RecNew(2, 3), impl.RecMessage{Kind: impl.RecPrepare}, []recTurn{refuses(1, 0)}},
		{"nothing promised", impl.RecNew(2, 3), impl.RecMessage{Kind: impl.RecPrepare, Ballot: 1},
			[]recTurn{promises(1), holds(impl.RecMessage{Kind: impl.RecPromised, To: 1, Ballot: 1})}},
		{"all promised", turnedRecorder(quietRecorder(), promises(most)), impl.RecMessage{Kind: impl.RecPrepare, Ballot: most}, []recTurn{refuses(1, most)}},
		{"one of one", impl.RecNew(1, 1), impl.RecMessage{Kind: impl.RecPrepare, Ballot: 4},
			[]recTurn{promises(4), holds(impl.RecMessage{Kind: impl.RecPromised, To: 1, Ballot: 4})}},
	})
}

// Only the Ballot of a RecPrepare is looked at, and a promise tells all slots that were written, safe or not, and no more.
func TestPreparesTellAllSlots(t *testing.T) {
	for what, slots := range goodSlots() {
		r := quietRecorder()
		r.Disk = impl.RecDisk{Promise: impl.RecMaxBallot - 1, Slots: slots}
		for i := range slots {
			r.Disk.Promise = max(r.Disk.Promise, slots[i].Ballot)
		}
		if r.Disk.Promise == impl.RecMaxBallot {
			continue // There is no ballot above it.
		}
		m := impl.RecMessage{Kind: impl.RecPrepare, Ballot: impl.RecMaxBallot, Index: 3, Known: 9, Text: "no", Slots: slotRow("1:no")}
		promised := impl.RecMessage{Kind: impl.RecPromised, To: 1, Ballot: impl.RecMaxBallot, Slots: slots}
		wantTakes(t, []takeCase{{what, r, m, []recTurn{promises(impl.RecMaxBallot), hears, holds(promised)}}})
	}
}

func TestRefusals(t *testing.T) {
	for ballot := range 9 {
		eachUp(func(what string, make func() impl.Recorder) {
			m := impl.RecMessage{Kind: impl.RecRefuse, From: 3, Ballot: ballot}
			wantTakes(t, []takeCase{{what + ", not above its own: " + count(ballot), make(), m, nil}})
		})
	}
	for _, from := range []int{1, 2, 3} {
		for _, ballot := range []int{9, 10, impl.RecMaxBallot} {
			m := impl.RecMessage{Kind: impl.RecRefuse, From: from, Ballot: ballot, Index: 1, Known: 4, Text: "no", Slots: slotRow("1:no")}
			wantTakes(t, []takeCase{
				{"quiet", quietRecorder(), m, nil},
				{"trying", tryingRecorder(), m, []recTurn{quiets, promises(ballot)}},
				{"leading", leadingRecorder(), m, []recTurn{quiets, promises(ballot)}},
			})
		}
	}
	// It may have promised more than what it leads with: a refusal in between takes no promise back.
	for _, make := range []func() impl.Recorder{leadingRecorder, tryingRecorder} {
		r := turnedRecorder(make(), func(r *impl.Recorder) { r.Ballot = 5 })
		for ballot, then := range map[int][]recTurn{0: nil, 4: nil, 5: nil, 6: {quiets}, 7: {quiets}, 8: {quiets}, 9: {quiets, promises(9)}} {
			wantTakes(t, []takeCase{{"below what it promised: " + count(ballot), r, impl.RecMessage{Kind: impl.RecRefuse, Ballot: ballot}, then}})
		}
	}
}
