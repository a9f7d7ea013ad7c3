package tests

import (
	"fmt"
	"math"
	"slices"
	"testing"

	"loop.example/wharfhall/impl"
)

func TestMerges(t *testing.T) {
	for _, c := range []struct{ what, a, b, want string }{
		{"two empty lists", "", "", ""},
		{"b is empty", "1:a 0: 3:c", "", "1:a 0: 3:c"},
		{"a is empty", "", "1:a 0: 3:c", "1:a 0: 3:c"},
		{"a is shorter", "5:a", "4:b 3:c 2:d", "5:a 3:c 2:d"},
		{"b is shorter", "4:b 3:c 2:d", "5:a", "5:a 3:c 2:d"},
		{"a is shorter and less", "1:a", "4:b 3:c 2:d", "4:b 3:c 2:d"},
		{"b is shorter and less", "4:b 3:c 2:d", "1:a", "4:b 3:c 2:d"},
		{"a is shorter, nothing taken behind", "2:a", "1:b 0: 0:", "2:a 0: 0:"},
		{"b is shorter, nothing taken behind", "1:b 0: 0:", "2:a", "2:a 0: 0:"},
		{"a's is greater", "2:a", "1:b", "2:a"},
		{"b's is greater", "1:a", "2:b", "2:b"},
		{"both are equal", "2:a", "2:b", "2:a"},
		{"both are equal, the other way", "2:b", "2:a", "2:b"},
		{"both are equal, a's is empty", "2:", "2:b", "2:"},
		{"both are equal, b's is empty", "2:a", "2:", "2:a"},
		{"neither took anything", "0: 0:", "0: 0:", "0: 0:"},
		{"a alone took something", "1:a", "0:", "1:a"},
		{"b alone took something", "0:", "1:b", "1:b"},
		{"an empty text of a greater ballot", "3:", "2:b", "3:"},
		{"an empty text of b's greater ballot", "2:a", "3:", "3:"},
		{"a greater text of a smaller ballot", "3:a", "2:z", "3:a"},
		{"a longer text of a smaller ballot", "2:aaaa", "3:a", "3:a"},
		{"each place on its own", "1:a 5:b 3:c 0: 9:e", "2:p 4:q 3:r 0:", "2:p 5:b 3:c 0: 9:e"},
		{"ballots as numbers", "9:a", "10:b", "10:b"},
	} {
		wantMerge(t, c.what, slotRow(c.a), slotRow(c.b), slotRow(c.want))
	}
	wantMerge(t, "nil and empty", nil, []impl.RecSlot{}, nil)
	wantMerge(t, "empty and nil", []impl.RecSlot{}, nil, nil)
}

// The document says: whatever they are.
func TestMergesOfSlotsThatAreNotOk(t *testing.T) {
	for _, c := range []struct{ what, a, b, want string }{
		{"below 0 alone in a", "-4:a", "", "-4:a"},
		{"below 0 alone in b", "", "-4:b", "-4:b"},
		{"below 0 behind the end of a", "1:a", "2:b -4:c", "2:b -4:c"},
		{"below 0 behind the end of b", "2:b -4:c", "1:a", "2:b -4:c"},
		{"both below 0", "-4:a", "-3:b", "-3:b"},
		{"both below 0, a's is greater", "-3:a", "-4:b", "-3:a"},
		{"both below 0, equal", "-3:a", "-3:b", "-3:a"},
		{"below 0, and nothing taken", "-3:a", "0:", "0:"},
		{"nothing taken, and below 0", "0:", "-3:b", "0:"},
		{"texts that were not taken", "0:a", "0:b", "0:a"},
		{"a text that was not taken, and one", "0:a", "1:b", "1:b"},
		{"a text that was not taken, behind", "1:a", "1:b 0:c", "1:a 0:c"},
		{"above all", "1000001:a", "1000002:b", "1000002:b"},
	} {
		wantMerge(t, c.what, slotRow(c.a), slotRow(c.b), slotRow(c.want))
	}
	least, most := impl.RecSlot{Ballot: math.MinInt, Text: "l"}, impl.RecSlot{Ballot: math.MaxInt, Text: "m"}
	wantMerge(t, "the ends of numbers", []impl.RecSlot{least}, []impl.RecSlot{most}, []impl.RecSlot{most})
	wantMerge(t, "the ends of numbers, turned", []impl.RecSlot{most}, []impl.RecSlot{least}, []impl.RecSlot{most})
	wantMerge(t, "the least, and nothing", []impl.RecSlot{least}, []impl.RecSlot{{}}, []impl.RecSlot{{}})
	wantMerge(t, "the least one behind", nil, []impl.RecSlot{least}, []impl.RecSlot{least})
	tooLong := []impl.RecSlot{{Ballot: 2, Text: long(impl.RecMaxText + 1)}}
	wantMerge(t, "a text that is too long", tooLong, slotRow("1:b"), tooLong)
	for what, slots := range wrongSlots() {
		wantMerge(t, what, slots, nil, slots)
		wantMerge(t, what, nil, slots, slots)
		wantMerge(t, what, slots, slots, slots)
		wantMerge(t, what, slots, slotRow("3:x 9:y"), mergeByHand(slots, slotRow("3:x 9:y")))
		wantMerge(t, what, slotRow("3:x 9:y"), slots, mergeByHand(slotRow("3:x 9:y"), slots))
	}
}

// Lists may be as long as they are, and differ by as much as they do.
func TestMergesOfLongLists(t *testing.T) {
	most := impl.RecMaxSlots
	lengths := []int{0, 1, 2, most - 1, most, most + 1, 2*most - 1, 2 * most, 2*most + 1, 1000}
	for _, n := range lengths {
		for _, m := range lengths {
			a, b := manySlots(n, 3), manySlots(m, 2)
			for i := range b {
				b[i].Text = "b" + count(i)
				if i%3 == 0 {
					b[i].Ballot = 4
				}
			}
			wantMerge(t, "slots: "+count(n)+" and "+count(m), a, b, mergeByHand(a, b))
			wantMerge(t, "slots: "+count(m)+" and "+count(n), b, a, mergeByHand(b, a))
		}
	}
}

// wantMergedBy24 asks for promise 24 of two lists.
func wantMergedBy24(t *testing.T, a, b []impl.RecSlot) {
	t.Helper()
	merged := impl.RecMerge(a, b)
	if len(merged) != max(len(a), len(b)) {
		t.Fatalf("%s and %s merged are %s", slotsTold(a), slotsTold(b), slotsTold(merged))
	}
	for i, s := range merged {
		ofA, ofB := i < len(a) && a[i] == s, i < len(b) && b[i] == s
		if !ofA && !ofB {
			t.Fatalf("at %d %.300q is of neither of %s and %s", i, fmt.Sprint(s), slotsTold(a), slotsTold(b))
		}
		if i < len(a) && a[i].Ballot > s.Ballot || i < len(b) && b[i].Ballot > s.Ballot {
			t.Fatalf("at %d %.300q has not the greatest ballot of %s and %s", i, fmt.Sprint(s), slotsTold(a), slotsTold(b))
		}
	}
	wantMerge(t, "merged again with a", merged, a, merged)
	wantMerge(t, "merged again with b", merged, b, merged)
	wantMerge(t, "a merged again with it", a, merged, merged)
	wantMerge(t, "merged with itself", merged, merged, merged)
}

// sameTexts says whether slots of two lists that have one ballot have one text, place by place.
func sameTexts(a, b []impl.RecSlot) bool {
	for i := range min(len(a), len(b)) {
		if a[i].Ballot == b[i].Ballot && a[i].Text != b[i].Text {
			return false
		}
	}
	return true
}

func TestDrawnMerges(t *testing.T) {
	d := &dice{state: 2124}
	var shorter, longer, differ int
	for range 6000 {
		most := oneOf(d, 1, 2, 3, 9, impl.RecMaxBallot)
		a := diceSlots(d, oneOf(d, 0, 1, d.below(5), d.below(12), impl.RecMaxSlots-d.below(3)), most)
		b := diceSlots(d, oneOf(d, len(a), d.below(5), d.below(12), impl.RecMaxSlots), most)
		kept, keptB := slices.Clone(a), slices.Clone(b)
		wantMergedBy24(t, a, b)
		wantMerge(t, "drawn", a, b, mergeByHand(kept, keptB))
		if !slotsByHand(impl.RecMerge(a, b)) {
			t.Errorf("%s and %s merged are not ok", slotsTold(a), slotsTold(b))
		}
		if sameTexts(a, b) {
			wantMerge(t, "in either order", b, a, impl.RecMerge(a, b))
			wantMerge(t, "b merged again with it", b, impl.RecMerge(a, b), impl.RecMerge(a, b))
		} else {
			differ++
		}
		if !slices.Equal(a, kept) || !slices.Equal(b, keptB) {
			t.Fatalf("%s or %s was written into", slotsTold(a), slotsTold(b))
		}
		if len(a) < len(b) {
			shorter++
		}
		if len(a) > len(b) {
			longer++
		}
	}
	if shorter < 1000 || longer < 1000 || differ < 1000 {
		t.Errorf("the dice showed too little: %d, %d, %d", shorter, longer, differ)
	}
}

// The promise holds of slots that are not ok, too; of three lists it does not matter which two are merged first.
func TestDrawnMergesOfAnything(t *testing.T) {
	d := &dice{state: 2125}
	for range 4000 {
		var lists [3][]impl.RecSlot
		for i := range lists {
			lists[i] = diceSlots(d, oneOf(d, d.below(5), d.below(8), impl.RecMaxSlots+d.below(4)), oneOf(d, 2, 9))
			for range d.below(6) {
				lists[i] = turnSlots(d, lists[i])
			}
		}
		a, b, c := lists[0], lists[1], lists[2]
		wantMergedBy24(t, a, b)
		wantMerge(t, "turned", a, b, mergeByHand(a, b))
		wantMerge(t, "three lists", a, impl.RecMerge(b, c), impl.RecMerge(impl.RecMerge(a, b), c))
	}
}
