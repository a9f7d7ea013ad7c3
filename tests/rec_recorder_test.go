package tests

import (
	"math"
	"reflect"
	"slices"
	"testing"

	"loop.example/wharfhall/impl"
)

func TestNewRecorders(t *testing.T) {
	most := impl.RecMaxRecorders
	for _, of := range []int{math.MinInt, -1, 0, 1, 2, 3, 4, most, most + 1, most + 2, math.MaxInt} {
		for _, number := range []int{math.MinInt, -1, 0, 1, 2, 3, 4, 5, 6, 7, of, of - 1, of + 1, math.MaxInt} {
			want := impl.Recorder{}
			there := 1 <= of && of <= most && 1 <= number && number <= of
			if there {
				want = impl.Recorder{Number: number, Of: of, Up: true}
			}
			got := impl.RecNew(number, of)
			if !reflect.DeepEqual(got, want) {
				t.Errorf("RecNew(%d, %d) = %s", number, of, recorderTold(got))
			}
			wantRecorder(t, "new", got, there)
		}
	}
}

func TestRecordersThatAreValid(t *testing.T) {
	wantRecorder(t, "nothing", impl.Recorder{}, false)
	for what, make := range validRecorders() {
		wantRecorder(t, what, make(), true)
	}
	wantEachTurned(t, true, map[string]recTurn{
		"as it is": func(r *impl.Recorder) {},
		"empty lists": func(r *impl.Recorder) {
			*r = impl.Recorder{Number: 1, Of: 1, Held: []impl.RecMessage{}, Wishes: []string{}, Yes: []int{}, Best: []impl.RecSlot{}, Acks: []impl.RecAck{}}
		},
		"nothing safe":                  func(r *impl.Recorder) { r.Safe = impl.RecDisk{} },
		"as safe as may be":             func(r *impl.Recorder) { r.Safe = r.Disk },
		"more promised than is written": func(r *impl.Recorder) { r.Safe.Promise = impl.RecMaxBallot },
		"more safe than is written":     func(r *impl.Recorder) { r.Safe = disk(9, 3, "1:a 2:b 3:c") },
		"nothing known":                 func(r *impl.Recorder) { r.Safe.Known, r.Disk.Known = 0, 0 },
	})
}

// There are Of recorders; what a recorder is valid by hangs on how many.
func TestNumbersOfRecorders(t *testing.T) {
	for of := -2; of <= 8; of++ {
		for number := -2; number <= 9; number++ {
			want := 1 <= of && of <= impl.RecMaxRecorders && 1 <= number && number <= of
			for _, up := range []bool{true, false} {
				wantRecorder(t, "number "+count(number)+" of "+count(of), impl.Recorder{Number: number, Of: of, Up: up}, want)
			}
		}
	}
	wantEachTurned(t, false, map[string]recTurn{
		"Number 0":              func(r *impl.Recorder) { r.Number = 0; r.Held = nil },
		"Number of the next":    func(r *impl.Recorder) { r.Number = 4; r.Held = nil },
		"Number below all":      func(r *impl.Recorder) { r.Number = math.MinInt; r.Held = nil },
		"Number above all":      func(r *impl.Recorder) { r.Number = math.MaxInt; r.Held = nil },
		"Of 0":                  func(r *impl.Recorder) { r.Of = 0 },
		"Of 1":                  func(r *impl.Recorder) { r.Of = 1 },
		"Of of one too many":    func(r *impl.Recorder) { r.Of = impl.RecMaxRecorders + 1 },
		"Of below all":          func(r *impl.Recorder) { r.Of = math.MinInt },
		"Of above all":          func(r *impl.Recorder) { r.Of = math.MaxInt },
		"Number and Of are 0":   func(r *impl.Recorder) { r.Number, r.Of, r.Held = 0, 0, nil },
		"Number and Of below 0": func(r *impl.Recorder) { r.Number, r.Of, r.Held = -1, -1, nil },
	})
	wantEachTurned(t, true, map[string]recTurn{
		"Of 4": func(r *impl.Recorder) { r.Of = 4 },
		"Of 5": func(r *impl.Recorder) { r.Of = 5 },
	})
}

func TestDisksOfRecorders(t *testing.T) {
	for what, slots := range wrongSlots() {
		wantEachTurned(t, false, map[string]recTurn{
			what + ", safe":    func(r *impl.Recorder) { r.Safe = impl.RecDisk{Promise: impl.RecMaxBallot, Slots: slots} },
			what + ", written": func(r *impl.Recorder) { r.Disk = impl.RecDisk{Promise: impl.RecMaxBallot, Slots: slots} },
		})
	}
	for what, slots := range goodSlots() {
		wantEachTurned(t, true, map[string]recTurn{
			what + ", safe":    func(r *impl.Recorder) { r.Safe = impl.RecDisk{Promise: impl.RecMaxBallot, Slots: slots} },
			what + ", written": func(r *impl.Recorder) { r.Disk = impl.RecDisk{Promise: impl.RecMaxBallot, Slots: slots} },
		})
	}
	wantEachTurned(t, false, map[string]recTurn{
		"safe, a ballot above the promise":    func(r *impl.Recorder) { r.Safe.Promise = 2 },
		"safe, a promise below 0":             func(r *impl.Recorder) { r.Safe = disk(-1, 0, "") },
		"safe, a promise above all":           func(r *impl.Recorder) { r.Safe.Promise = impl.RecMaxBallot + 1 },
		"safe, known below 0":                 func(r *impl.Recorder) { r.Safe.Known = -1 },
		"safe, known and not taken":           func(r *impl.Recorder) { r.Safe.Known = 2 },
		"safe, known and not there":           func(r *impl.Recorder) { r.Safe = disk(5, 2, "3:a") },
		"written, a ballot above the promise": func(r *impl.Recorder) { r.Disk.Slots[0].Ballot = 9 },
		"written, a promise above all":        func(r *impl.Recorder) { r.Disk.Promise = impl.RecMaxBallot + 1 },
		"written, known below 0":              func(r *impl.Recorder) { r.Disk.Known = -1 },
		"written, known and not taken":        func(r *impl.Recorder) { r.Disk.Known = 3 },
		"written, known and not there":        func(r *impl.Recorder) { r.Disk.Known = 5 },
	})
}

func upRecorders() []func() impl.Recorder {
	return []func() impl.Recorder{quietRecorder, tryingRecorder, leadingRecorder}
}

func TestWhatIsHeld(t *testing.T) {
	for _, make := range upRecorders() {
		for _, n := range []int{0, 1, 2, impl.RecMaxHeld - 1, impl.RecMaxHeld, impl.RecMaxHeld + 1, 1000} {
			r := make()
			r.Held = plainMessages(n, r.Number)
			wantRecorder(t, "held: "+count(n), r, n <= impl.RecMaxHeld)
		}
		for i := range make().Held {
			at := func(turn func(m *impl.RecMessage)) recTurn { return func(r *impl.Recorder) { turn(&r.Held[i]) } }
			wantRecTurned(t, make, false, map[string]recTurn{
				"from the one before": at(func(m *impl.RecMessage) { m.From = 1 }),
				"from the one behind": at(func(m *impl.RecMessage) { m.From = 3 }),
				"from nobody":         at(func(m *impl.RecMessage) { m.From = 0 }),
				"of no Kind":          at(func(m *impl.RecMessage) { m.Kind = 0 }),
				"of the next Kind":    at(func(m *impl.RecMessage) { m.Kind = 10 }),
				"to nobody":           at(func(m *impl.RecMessage) { m.To = 0 }),
				"to one too many":     at(func(m *impl.RecMessage) { m.To = 4 }),
				"a ballot too great":  at(func(m *impl.RecMessage) { m.Ballot = impl.RecMaxBallot + 1 }),
				"an Index too great":  at(func(m *impl.RecMessage) { m.Index = impl.RecMaxSlots + 1 }),
				"a Known too great":   at(func(m *impl.RecMessage) { m.Known = impl.RecMaxSlots + 1 }),
				"a text too long":     at(func(m *impl.RecMessage) { m.Text = long(impl.RecMaxText + 1) }),
				"slots that are not":  at(func(m *impl.RecMessage) { m.Slots = slotRow("0:a") }),
				"nothing":             at(func(m *impl.RecMessage) { *m = impl.RecMessage{} }),
			})
			wantRecTurned(t, make, true, map[string]recTurn{
				"to itself":            at(func(m *impl.RecMessage) { m.To = 2 }),
				"to the last":          at(func(m *impl.RecMessage) { m.To = 3 }),
				"a ballot of no disk":  at(func(m *impl.RecMessage) { m.Ballot = impl.RecMaxBallot }),
				"as long as it may be": at(func(m *impl.RecMessage) { m.Text = long(impl.RecMaxText) }),
			})
		}
	}
	last := quietRecorder()
	last.Held = plainMessages(impl.RecMaxHeld, 2)
	last.Held[impl.RecMaxHeld-1].From = 1
	wantRecorder(t, "the last one held is of another", last, false)
	// A message that is ok for more recorders than there are is not ok for these.
	last = quietRecorder()
	last.Held[0].To = 4
	wantRecorder(t, "to the fourth of three", last, false)
	last.Of = 4
	wantRecorder(t, "to the fourth of four", last, true)
}

func TestWishes(t *testing.T) {
	for _, make := range upRecorders() {
		for n := range impl.RecMaxWishes + 5 {
			r := make()
			r.Wishes = names(n)
			wantRecorder(t, "wishes: "+count(n), r, n <= impl.RecMaxWishes)
		}
		for n := range impl.RecMaxText + 5 {
			r := make()
			r.Wishes = []string{"c", long(n), "d"}
			wantRecorder(t, "a wish of bytes: "+count(n), r, 1 <= n && n <= impl.RecMaxText)
		}
		for i := range impl.RecMaxWishes {
			r := make()
			r.Wishes = names(impl.RecMaxWishes)
			r.Wishes[i] = ""
			wantRecorder(t, "an empty wish at "+count(i), r, false)
			r.Wishes[i] = long(impl.RecMaxText + 1)
			wantRecorder(t, "too long a wish at "+count(i), r, false)
			r.Wishes[i] = long(impl.RecMaxText)
			wantRecorder(t, "a long wish at "+count(i), r, true)
			for j := range i {
				r.Wishes[i] = r.Wishes[j]
				wantRecorder(t, "one wish at "+count(j)+" and "+count(i), r, false)
			}
		}
	}
	wantRecTurned(t, quietRecorder, true, map[string]recTurn{
		"in no order":            func(r *impl.Recorder) { r.Wishes = []string{"z", "a", "m", "A"} },
		"the beginning of one":   func(r *impl.Recorder) { r.Wishes = []string{"a", "aa", "aaa"} },
		"what is known already":  func(r *impl.Recorder) { r.Wishes = []string{"a", "b"} },
		"bytes that are no text": func(r *impl.Recorder) { r.Wishes = []string{"\xff", "\x00", "\xff\x00"} },
	})
}

func TestTicksSinceALeaderWasHeard(t *testing.T) {
	for _, make := range upRecorders() {
		for heard, ok := range map[int]bool{
			0: true, 1: true, impl.RecMaxBallot - 1: true, impl.RecMaxBallot: true,
			-1: false, impl.RecMaxBallot + 1: false, math.MinInt: false, math.MaxInt: false,
		} {
			wantRecTurned(t, make, ok, map[string]recTurn{"Heard " + count(heard): func(r *impl.Recorder) { r.Heard = heard }})
		}
	}
}

// numberRows are numbers of recorders of 3, and whether they ascend and are such.
var numberRows = []struct {
	row []int
	ok  bool
}{
	{nil, true}, {[]int{}, true}, {[]int{1}, true}, {[]int{2}, true}, {[]int{3}, true},
	{[]int{1, 2}, true}, {[]int{1, 3}, true}, {[]int{2, 3}, true}, {[]int{1, 2, 3}, true},
	{[]int{0}, false}, {[]int{4}, false}, {[]int{-1}, false}, {[]int{math.MinInt}, false}, {[]int{math.MaxInt}, false},
	{[]int{0, 1}, false}, {[]int{3, 4}, false}, {[]int{1, 2, 3, 4}, false}, {[]int{0, 1, 2}, false},
	{[]int{1, 1}, false}, {[]int{3, 3}, false}, {[]int{2, 1}, false}, {[]int{3, 1}, false}, {[]int{3, 2}, false},
	{[]int{1, 3, 2}, false}, {[]int{2, 1, 3}, false}, {[]int{1, 2, 2}, false}, {[]int{1, 1, 2}, false}, {[]int{3, 2, 1}, false},
}

func TestWhoPromised(t *testing.T) {
	for _, c := range numberRows {
		wantRecTurned(t, tryingRecorder, c.ok, map[string]recTurn{"Yes": func(r *impl.Recorder) { r.Yes = c.row }})
	}
	r := tryingRecorder()
	r.Of, r.Yes = 5, []int{1, 2, 3, 4, 5}
	wantRecorder(t, "all of five", r, true)
	r.Yes = append(r.Yes, 6)
	wantRecorder(t, "six of five", r, false)
}

func TestWhatWasMerged(t *testing.T) {
	for what, slots := range goodSlots() {
		wantRecTurned(t, tryingRecorder, true, map[string]recTurn{what: func(r *impl.Recorder) { r.Best = slots }})
	}
	for what, slots := range wrongSlots() {
		wantRecTurned(t, tryingRecorder, false, map[string]recTurn{what: func(r *impl.Recorder) { r.Best = slots }})
	}
}

func TestWhoTookWhat(t *testing.T) {
	for _, c := range numberRows {
		for i := range leadingRecorder().Acks {
			wantRecTurned(t, leadingRecorder, c.ok, map[string]recTurn{"From at " + count(i): func(r *impl.Recorder) { r.Acks[i].From = c.row }})
		}
	}
	most := impl.RecMaxSlots
	for _, c := range []struct {
		indexes []int
		ok      bool
	}{
		{[]int{}, true}, {[]int{1}, true}, {[]int{most}, true}, {[]int{1, most}, true}, {[]int{2, 3, 5, 8}, true},
		{[]int{0}, false}, {[]int{most + 1}, false}, {[]int{-1}, false}, {[]int{math.MinInt}, false}, {[]int{math.MaxInt}, false},
		{[]int{0, 1}, false}, {[]int{1, most + 1}, false}, {[]int{1, 2, most, most + 1}, false},
		{[]int{4, 4}, false}, {[]int{5, 4}, false}, {[]int{1, 3, 2}, false}, {[]int{2, 1, 3}, false}, {[]int{1, 2, 2}, false}, {[]int{1, 1, 2}, false},
	} {
		var acks []impl.RecAck
		for _, index := range c.indexes {
			acks = append(acks, impl.RecAck{Index: index, From: []int{1, 3}})
		}
		wantRecTurned(t, leadingRecorder, c.ok, map[string]recTurn{"Acks": func(r *impl.Recorder) { r.Acks = acks }})
	}
	all := leadingRecorder()
	all.Acks = nil
	for i := range most {
		all.Acks = append(all.Acks, impl.RecAck{Index: i + 1})
	}
	wantRecorder(t, "an ack of each place", all, true)
	all.Acks = slices.Insert(all.Acks, 60, impl.RecAck{Index: 60})
	wantRecorder(t, "an ack of a place twice", all, false)
	five := leadingRecorder()
	five.Of, five.Acks[2].From = 5, []int{1, 4, 5}
	wantRecorder(t, "taken by the fifth of five", five, true)
	five.Of = 4
	wantRecorder(t, "taken by the fifth of four", five, false)
}
