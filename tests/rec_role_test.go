package tests

import (
	"math"
	"testing"

	"loop.example/wharfhall/impl"
)

func TestNobodyLeadsAndTries(t *testing.T) {
	for _, ballot := range []int{0, 1, 8, 9} {
		r := quietRecorder()
		r.Lead, r.Trying, r.Ballot = true, true, ballot
		wantRecorder(t, "both, with Ballot "+count(ballot), r, false)
	}
	wantRecTurned(t, leadingRecorder, false, map[string]recTurn{
		"tries, too":               func(r *impl.Recorder) { r.Trying = true },
		"tries, too, without acks": func(r *impl.Recorder) { r.Trying, r.Acks = true, nil },
	})
	wantRecTurned(t, tryingRecorder, false, map[string]recTurn{
		"leads, too":                   func(r *impl.Recorder) { r.Lead = true },
		"leads, too, without promises": func(r *impl.Recorder) { r.Lead, r.Yes, r.Best = true, nil, nil },
	})
}

// The Ballot of one that leads or tries is bounded by what the Disk promised, whatever of it is safe.
func TestBallotsOfRecorders(t *testing.T) {
	for _, make := range []func() impl.Recorder{leadingRecorder, tryingRecorder} {
		for ballot, ok := range map[int]bool{
			1: true, 2: true, 5: true, 6: true, 7: true, 8: true,
			0: false, -1: false, 9: false, impl.RecMaxBallot: false, math.MinInt: false, math.MaxInt: false,
		} {
			wantRecTurned(t, make, ok, map[string]recTurn{
				"Ballot " + count(ballot):                     func(r *impl.Recorder) { r.Ballot = ballot },
				"Ballot, nothing safe " + count(ballot):       func(r *impl.Recorder) { r.Ballot, r.Safe = ballot, impl.RecDisk{} },
				"Ballot, much promised safe " + count(ballot): func(r *impl.Recorder) { r.Ballot, r.Safe.Promise = ballot, impl.RecMaxBallot },
			})
		}
		most := impl.RecMaxBallot
		wantRecTurned(t, make, true, map[string]recTurn{
			"the greatest Ballot":  func(r *impl.Recorder) { r.Ballot, r.Disk.Promise = most, most },
			"a Ballot of a number": func(r *impl.Recorder) { r.Ballot, r.Disk.Promise = 1, most },
		})
		wantRecTurned(t, make, false, map[string]recTurn{
			"one more":         func(r *impl.Recorder) { r.Ballot, r.Disk.Promise = most+1, most },
			"both one more":    func(r *impl.Recorder) { r.Ballot, r.Disk.Promise = most+1, most+1 },
			"nothing promised": func(r *impl.Recorder) { r.Ballot, r.Disk = 1, impl.RecDisk{} },
			"Ballot 0 of 0":    func(r *impl.Recorder) { r.Ballot, r.Disk = 0, impl.RecDisk{} },
		})
	}
	for _, ballot := range []int{1, 8, 9, -1, impl.RecMaxBallot, math.MinInt, math.MaxInt} {
		wantRecTurned(t, quietRecorder, false, map[string]recTurn{"quiet, Ballot " + count(ballot): func(r *impl.Recorder) { r.Ballot = ballot }})
		wantRecTurned(t, fallenRecorder, false, map[string]recTurn{"fallen, Ballot " + count(ballot): func(r *impl.Recorder) { r.Ballot = ballot }})
	}
}

func TestWhatALeaderHas(t *testing.T) {
	wantRecTurned(t, leadingRecorder, false, map[string]recTurn{
		"who promised":                 func(r *impl.Recorder) { r.Yes = []int{1} },
		"all who promised":             func(r *impl.Recorder) { r.Yes = []int{1, 2, 3} },
		"what was merged":              func(r *impl.Recorder) { r.Best = slotRow("1:a") },
		"what was merged is nothing":   func(r *impl.Recorder) { r.Best = slotRow("0:") },
		"who promised, no acks":        func(r *impl.Recorder) { r.Yes, r.Acks = []int{1}, nil },
		"what was merged, no acks":     func(r *impl.Recorder) { r.Best, r.Acks = slotRow("1:a"), nil },
		"leads no more, with its acks": func(r *impl.Recorder) { r.Lead, r.Ballot = false, 0 },
		"leads no more, with a ballot": func(r *impl.Recorder) { r.Lead, r.Acks = false, nil },
	})
	wantRecTurned(t, leadingRecorder, true, map[string]recTurn{
		"no acks":       func(r *impl.Recorder) { r.Acks = nil },
		"leads no more": func(r *impl.Recorder) { r.Lead, r.Ballot, r.Acks = false, 0, nil },
		"empty lists":   func(r *impl.Recorder) { r.Yes, r.Best, r.Acks = []int{}, []impl.RecSlot{}, []impl.RecAck{} },
	})
}

func TestWhatOneThatTriesHas(t *testing.T) {
	wantRecTurned(t, tryingRecorder, false, map[string]recTurn{
		"acks":                             func(r *impl.Recorder) { r.Acks = []impl.RecAck{{Index: 1}} },
		"acks, no promises":                func(r *impl.Recorder) { r.Acks, r.Yes, r.Best = []impl.RecAck{{Index: 3, From: []int{1}}}, nil, nil },
		"tries no more, with its promises": func(r *impl.Recorder) { r.Trying, r.Ballot, r.Best = false, 0, nil },
		"tries no more, with what merged":  func(r *impl.Recorder) { r.Trying, r.Ballot, r.Yes = false, 0, nil },
		"tries no more, with a ballot":     func(r *impl.Recorder) { r.Trying, r.Yes, r.Best = false, nil, nil },
	})
	wantRecTurned(t, tryingRecorder, true, map[string]recTurn{
		"no promises":     func(r *impl.Recorder) { r.Yes = nil },
		"nothing merged":  func(r *impl.Recorder) { r.Best = nil },
		"neither of them": func(r *impl.Recorder) { r.Yes, r.Best = nil, nil },
		"tries no more":   func(r *impl.Recorder) { r.Trying, r.Ballot, r.Yes, r.Best = false, 0, nil, nil },
		"empty lists":     func(r *impl.Recorder) { r.Yes, r.Best, r.Acks = []int{}, []impl.RecSlot{}, []impl.RecAck{} },
	})
}

// A quiet one, Up or not, has nothing of what one has that leads or tries.
func TestWhatAQuietOneHas(t *testing.T) {
	for _, make := range []func() impl.Recorder{quietRecorder, fallenRecorder} {
		wantRecTurned(t, make, false, map[string]recTurn{
			"a ballot":         func(r *impl.Recorder) { r.Ballot = 1 },
			"who promised":     func(r *impl.Recorder) { r.Yes = []int{2} },
			"what was merged":  func(r *impl.Recorder) { r.Best = slotRow("1:a") },
			"nothing was so":   func(r *impl.Recorder) { r.Best = slotRow("0:") },
			"acks":             func(r *impl.Recorder) { r.Acks = []impl.RecAck{{Index: 1, From: []int{1}}} },
			"an ack of nobody": func(r *impl.Recorder) { r.Acks = []impl.RecAck{{Index: 1}} },
			"leads under 0":    func(r *impl.Recorder) { r.Lead = true },
			"tries under 0":    func(r *impl.Recorder) { r.Trying = true },
		})
	}
	wantRecTurned(t, quietRecorder, true, map[string]recTurn{
		"leads under a ballot": func(r *impl.Recorder) { r.Lead, r.Ballot = true, 1 },
		"tries under a ballot": func(r *impl.Recorder) { r.Trying, r.Ballot = true, 1 },
		"empty lists":          func(r *impl.Recorder) { r.Yes, r.Best, r.Acks = []int{}, []impl.RecSlot{}, []impl.RecAck{} },
	})
}

// One that is not Up keeps its disks, and nothing else.
func TestWhatOneThatIsNotUpHas(t *testing.T) {
	wantRecTurned(t, fallenRecorder, false, map[string]recTurn{
		"something held":         func(r *impl.Recorder) { r.Held = plainMessages(1, 2) },
		"a wish":                 func(r *impl.Recorder) { r.Wishes = []string{"a"} },
		"Heard 1":                func(r *impl.Recorder) { r.Heard = 1 },
		"Heard above all":        func(r *impl.Recorder) { r.Heard = impl.RecMaxBallot },
		"Heard below 0":          func(r *impl.Recorder) { r.Heard = -1 },
		"leads":                  func(r *impl.Recorder) { r.Lead, r.Ballot = true, 8 },
		"tries":                  func(r *impl.Recorder) { r.Trying, r.Ballot = true, 8 },
		"leads and tries":        func(r *impl.Recorder) { r.Lead, r.Trying, r.Ballot = true, true, 8 },
		"all of a quiet one":     func(r *impl.Recorder) { *r = quietRecorder(); r.Up = false },
		"all of one that tries":  func(r *impl.Recorder) { *r = tryingRecorder(); r.Up = false },
		"all of one that leads":  func(r *impl.Recorder) { *r = leadingRecorder(); r.Up = false },
		"a quiet one's held":     func(r *impl.Recorder) { r.Held = quietRecorder().Held },
		"a quiet one's wishes":   func(r *impl.Recorder) { r.Wishes = quietRecorder().Wishes },
		"as many wishes as fit":  func(r *impl.Recorder) { r.Wishes = names(impl.RecMaxWishes) },
		"as many held as may be": func(r *impl.Recorder) { r.Held = plainMessages(impl.RecMaxHeld, 2) },
	})
	wantRecTurned(t, fallenRecorder, true, map[string]recTurn{
		"as it is":         func(r *impl.Recorder) {},
		"no disks":         func(r *impl.Recorder) { r.Safe, r.Disk = impl.RecDisk{}, impl.RecDisk{} },
		"Up, with nothing": func(r *impl.Recorder) { r.Up = true },
		"empty lists":      func(r *impl.Recorder) { r.Held, r.Wishes = []impl.RecMessage{}, []string{} },
		"what is safe":     func(r *impl.Recorder) { r.Disk = r.Safe },
	})
	// The same of one that is Up is as it should be.
	wantRecTurned(t, fallenRecorder, true, map[string]recTurn{
		"something held": func(r *impl.Recorder) { r.Up, r.Held = true, plainMessages(1, 2) },
		"a wish":         func(r *impl.Recorder) { r.Up, r.Wishes = true, []string{"a"} },
		"Heard 1":        func(r *impl.Recorder) { r.Up, r.Heard = true, 1 },
		"leads":          func(r *impl.Recorder) { r.Up, r.Lead, r.Ballot = true, true, 8 },
		"tries":          func(r *impl.Recorder) { r.Up, r.Trying, r.Ballot = true, true, 8 },
	})
}
