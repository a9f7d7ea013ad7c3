package tests

import (
	"fmt"
	"slices"
	"strconv"
	"strings"
	"testing"

	"loop.example/wharfhall/impl"
)

// slotRow reads slots, a word each: the ballot, and behind a colon the text.
func slotRow(row string) []impl.RecSlot {
	var slots []impl.RecSlot
	for _, word := range strings.Fields(row) {
		ballot, text, _ := strings.Cut(word, ":")
		n, err := strconv.Atoi(ballot)
		if err != nil {
			panic(err)
		}
		slots = append(slots, impl.RecSlot{Ballot: n, Text: text})
	}
	return slots
}

// manySlots are n slots of one ballot with different texts.
func manySlots(n, ballot int) []impl.RecSlot {
	var slots []impl.RecSlot
	for i := range n {
		slots = append(slots, impl.RecSlot{Ballot: ballot, Text: "t" + count(i)})
	}
	return slots
}

func disk(promise, known int, row string) impl.RecDisk {
	return impl.RecDisk{Promise: promise, Known: known, Slots: slotRow(row)}
}

// slotsTold writes slots as far as somebody would read them.
func slotsTold(slots []impl.RecSlot) string {
	return fmt.Sprintf("%d slots: %.400q", len(slots), fmt.Sprint(slots))
}

func wantDisk(t *testing.T, what string, d impl.RecDisk, want bool) {
	t.Helper()
	if got := impl.RecDiskOk(d); got != want {
		t.Errorf("%s: RecDiskOk of Promise %d, Known %d, %s = %v", what, d.Promise, d.Known, slotsTold(d.Slots), got)
	}
}

// wantMerge holds a nil list and an empty one to be the same.
func wantMerge(t *testing.T, what string, a, b, want []impl.RecSlot) {
	t.Helper()
	if got := impl.RecMerge(a, b); !slices.Equal(got, want) {
		t.Errorf("%s: RecMerge of %s\nand %s\n= %s,\nnot %s", what, slotsTold(a), slotsTold(b), slotsTold(got), slotsTold(want))
	}
}

// goodSlots are slots that are ok, by what is at their edge.
func goodSlots() map[string][]impl.RecSlot {
	most := impl.RecMaxBallot
	return map[string][]impl.RecSlot{
		"none":                 nil,
		"an empty list":        {},
		"nothing taken":        {{}},
		"nothing taken twice":  {{}, {}},
		"an empty text taken":  {{Ballot: 1}},
		"the least ballot":     {{Ballot: 1, Text: "a"}},
		"the greatest ballot":  {{Ballot: most, Text: "a"}},
		"the greatest, empty":  {{Ballot: most}},
		"the longest text":     {{Ballot: 1, Text: long(impl.RecMaxText)}},
		"any bytes":            {{Ballot: 1, Text: "\x00\xff \n"}, {Ballot: 2, Text: "é"}},
		"one text twice":       {{Ballot: 1, Text: "a"}, {Ballot: 1, Text: "a"}},
		"ballots in no order":  slotRow("3:a 1:b 2:c 9:d 0: 4:e"),
		"holes":                slotRow("0: 0: 5:a 0: 2:b 0:"),
		"as many as there are": manySlots(impl.RecMaxSlots, 7),
		"as many, none taken":  make([]impl.RecSlot, impl.RecMaxSlots),
		"many long ones":       slices.Repeat([]impl.RecSlot{{Ballot: most, Text: long(impl.RecMaxText)}}, impl.RecMaxSlots),
	}
}

// wrongSlots are slots that are not ok, by what is wrong with them.
func wrongSlots() map[string][]impl.RecSlot {
	most := impl.RecMaxBallot
	out := map[string][]impl.RecSlot{
		"a ballot below 0":           {{Ballot: -1}},
		"a ballot far below 0":       {{Ballot: -most}},
		"below 0, with a text":       {{Ballot: -1, Text: "a"}},
		"a ballot above all":         {{Ballot: most + 1}},
		"above all, with a text":     {{Ballot: most + 1, Text: "a"}},
		"a text that was not taken":  {{Text: "a"}},
		"a long text, not taken":     {{Text: long(impl.RecMaxText)}},
		"a text too long":            {{Ballot: 1, Text: long(impl.RecMaxText + 1)}},
		"a text too long, great":     {{Ballot: most, Text: long(impl.RecMaxText + 1)}},
		"a text by far too long":     {{Ballot: 1, Text: long(10000)}},
		"one too many":               manySlots(impl.RecMaxSlots+1, 7),
		"one too many, none taken":   make([]impl.RecSlot, impl.RecMaxSlots+1),
		"by far too many":            manySlots(5000, 1),
		"a text of runes, too long":  {{Ballot: 1, Text: strings.Repeat("é", impl.RecMaxText/2) + "x"}},
		"a byte 0 that is not taken": {{Text: "\x00"}},
	}
	for i := range impl.RecMaxSlots {
		slots := manySlots(impl.RecMaxSlots, 7)
		slots[i].Ballot = 0
		out["a text not taken at "+count(i)] = slots
	}
	return out
}

// slotsByHand is what chapter 21 says of slots.
func slotsByHand(slots []impl.RecSlot) bool {
	ok := len(slots) <= 120
	for _, s := range slots {
		ok = ok && s.Ballot >= 0 && s.Ballot <= 1000000 && len(s.Text) <= 160
		if s.Ballot == 0 && s.Text != "" {
			ok = false
		}
	}
	return ok
}

// diskByHand is what chapter 21 says of a disk.
func diskByHand(d impl.RecDisk) bool {
	ok := d.Promise >= 0 && d.Promise <= 1000000 && slotsByHand(d.Slots) && d.Known >= 0 && d.Known <= len(d.Slots)
	for i, s := range d.Slots {
		ok = ok && s.Ballot <= d.Promise
		if i < d.Known && s.Ballot == 0 {
			ok = false
		}
	}
	return ok
}

// mergeByHand is what chapter 21 says of two lists, slot by slot.
func mergeByHand(a, b []impl.RecSlot) []impl.RecSlot {
	var out []impl.RecSlot
	for i := 0; i < len(a) || i < len(b); i++ {
		if i >= len(a) || i < len(b) && b[i].Ballot > a[i].Ballot {
			out = append(out, b[i])
		} else {
			out = append(out, a[i])
		}
	}
	return out
}

// diceSlots are ok slots, none with a ballot above most.
func diceSlots(d *dice, number, most int) []impl.RecSlot {
	var slots []impl.RecSlot
	for range number {
		s := impl.RecSlot{Ballot: oneOf(d, 0, d.below(most+1), d.below(min(most, 4)+1), most)}
		if s.Ballot > 0 {
			s.Text = oneOf(d, "", "a", "b", "c", "a\xff", long(d.below(5)), long(impl.RecMaxText))
		}
		slots = append(slots, s)
	}
	return slots
}

// diceDisk is an ok disk, with a Promise of at least so much.
func diceDisk(d *dice, promise int) impl.RecDisk {
	disk := impl.RecDisk{Promise: max(promise, oneOf(d, 0, 1, 2, 3, 9, d.below(100), impl.RecMaxBallot))}
	disk.Slots = diceSlots(d, oneOf(d, 0, 1, d.below(6), d.below(6), d.below(30), impl.RecMaxSlots), disk.Promise)
	taken := slices.IndexFunc(disk.Slots, func(s impl.RecSlot) bool { return s.Ballot == 0 })
	if taken < 0 {
		taken = len(disk.Slots)
	}
	disk.Known = oneOf(d, 0, taken, d.below(taken+1))
	return disk
}

// turnSlots turns one thing of slots: a ballot, a text, an order, or how many there are.
func turnSlots(d *dice, slots []impl.RecSlot) []impl.RecSlot {
	out := slices.Clone(slots)
	switch at := d.below(len(out) + 1); {
	case at == len(out):
		return append(out, oneOf(d, impl.RecSlot{}, impl.RecSlot{Ballot: 1}, impl.RecSlot{Ballot: impl.RecMaxBallot + 1}, impl.RecSlot{Text: "x"}))
	case d.below(4) == 0:
		return turnedAround(d, out)
	case d.below(3) == 0:
		out[at].Text = oneOf(d, "", "x", long(impl.RecMaxText), long(impl.RecMaxText+1))
	default:
		n := out[at].Ballot
		out[at].Ballot = oneOf(d, n-1, n+1, 0, -1, 1, impl.RecMaxBallot, impl.RecMaxBallot+1)
	}
	return out
}
