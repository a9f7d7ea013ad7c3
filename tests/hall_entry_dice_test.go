package tests

import (
	"math"
	"reflect"
	"slices"
	"strings"
	"testing"

	"loop.example/wharfhall/impl"
)

func diceName(d *dice) string {
	return oneOf(d, "a", "web", "db", "d1", "ann", "0", "12", "-", "service", "drop", "tick", long(1+d.below(16)), long(16))
}

func diceDecimal(d *dice) int {
	return oneOf(d, 0, 1, 2, 9, 10, d.below(100), d.below(10000000), 1000000, 9999999)
}

func diceLength(d *dice) int {
	return oneOf(d, 0, 0, 1, 1, 2, 3, d.below(8))
}

func diceNames(d *dice, n int) []string {
	var out []string
	for range n {
		out = append(out, diceName(d))
	}
	return out
}

func diceAskOfForm(d *dice) impl.GateAsk {
	a := impl.GateAsk{Who: diceName(d), Verb: 1 + d.below(6)}
	if a.Verb <= impl.GateLetGo {
		a.Kind, a.Name = "service", diceName(d)
	}
	switch a.Verb {
	case impl.GateMake:
		a.Team, a.Holds, a.Values = diceName(d), diceNames(d, diceLength(d)), diceValues(d)
	case impl.GateChange:
		a.Seen, a.Values = diceDecimal(d), diceValues(d)
	case impl.GateEnd:
		a.Seen = diceDecimal(d)
	case impl.GateLetGo:
		a.Hold = diceName(d)
	case impl.GateGive:
		a.To, a.Rule = diceName(d), rule(nil, oneOf(d, "", diceName(d)), oneOf(d, "", diceName(d)), oneOf(d, "", diceName(d)))
		for range 1 + d.below(6) {
			a.Rule.Verbs = append(a.Rule.Verbs, d.below(10))
		}
	case impl.GateTake:
		a.Number = diceDecimal(d)
	}
	return a
}

func diceValues(d *dice) []string {
	out := make([]string, 6)
	for i := range out {
		out[i] = oneOf(d, "", "", diceName(d), count(diceDecimal(d)))
	}
	return out
}

func diceSeaOfForm(d *dice) impl.StewEvent {
	e := impl.StewEvent{Kind: oneOf(d, impl.StewTick, impl.StewFails, impl.StewSink, impl.StewRaise, impl.StewLoad)}
	if e.Kind != impl.StewTick {
		e.Name = diceName(d)
	}
	if e.Kind == impl.StewFails || e.Kind == impl.StewLoad {
		e.Number = diceDecimal(d)
	}
	e.Flag = e.Kind == impl.StewRaise && d.below(2) == 0
	return e
}

func diceActOfForm(d *dice) impl.StewAct {
	a := impl.StewAct{Service: diceName(d), Seen: diceDecimal(d), Create: diceDecimal(d), Scale: d.below(2) == 0, Drop: d.below(3) == 0}
	if a.Scale {
		a.Want, a.Cool = diceDecimal(d), diceDecimal(d)
	}
	for range oneOf(d, diceLength(d), d.below(20)) {
		a.Ends = append(a.Ends, impl.StewEnd{Number: diceDecimal(d), Seen: diceDecimal(d)})
	}
	return a
}

// diceEntry is an entry that has a form, unless it is too long.
func diceEntry(d *dice) impl.HallEntry {
	e := impl.HallEntry{Kind: 1 + d.below(8), Number: oneOf(d, 1, 2, 1+d.below(1000000), 1000000)}
	switch e.Kind {
	case impl.HallSlip:
		e.Slip = impl.GateSlip{Door: diceName(d), Ask: diceAskOfForm(d), Given: diceDecimal(d)}
		for range diceLength(d) {
			e.Slip.Wants = append(e.Slip.Wants, serviceWant(diceName(d), diceDecimal(d)))
		}
	case impl.HallDraw:
		e.Door, e.Team, e.Resource, e.Amount = diceName(d), diceName(d), diceName(d), diceDecimal(d)
	case impl.HallBack:
		e.Door, e.Team, e.Resource = diceName(d), diceName(d), diceName(d)
	case impl.HallBound:
		e.Team, e.Resource, e.Amount = diceName(d), diceName(d), diceDecimal(d)
	case impl.HallAct:
		e.Act = diceActOfForm(d)
	case impl.HallSea:
		e.Sea = diceSeaOfForm(d)
	}
	return e
}

// turnEntry turns one part of an entry, be it one that is written or not; lists are turned at one place, or get longer or shorter.
func turnEntry(d *dice, e *impl.HallEntry) {
	parts := entryParts(e)
	paths := make([]string, 0, len(parts))
	for path := range parts {
		paths = append(paths, path)
	}
	slices.Sort(paths)
	// What is set already is turned more often: it is more likely to be written.
	for range 2 {
		if part := parts[oneOf(d, paths...)]; !part.IsZero() || d.below(12) == 0 {
			turnPart(d, part)
			return
		}
	}
	for _, path := range turnedAround(d, paths) {
		if part := parts[path]; !part.IsZero() {
			turnPart(d, part)
			return
		}
	}
}

func turnPart(d *dice, part reflect.Value) {
	switch part.Kind() {
	case reflect.String:
		part.SetString(oneOf(d, "", "*", "a b", "A", "a,b", "a:0", ",", ":", " ", long(17), "service", diceName(d), diceName(d), "\x00"))
	case reflect.Int:
		part.SetInt(int64(oneOf(d, -1, 0, 1, int(part.Int())+1, int(part.Int())-1, 9, 10, 1000000, 1000001, 9999999, 10000000, math.MinInt, math.MaxInt)))
	case reflect.Bool:
		part.SetBool(!part.Bool())
	case reflect.Struct:
		turnPart(d, part.Field(d.below(part.NumField())))
	case reflect.Slice:
		turnList(d, part)
	}
}

func turnList(d *dice, list reflect.Value) {
	n := list.Len()
	switch {
	case n == 0 || d.below(4) == 0:
		list.Set(reflect.Append(list, oneOf(d, reflect.Zero(list.Type().Elem()), sentinel(list.Type().Elem()))))
	case d.below(3) == 0:
		list.Set(list.Slice(0, n-1))
	default:
		turnPart(d, list.Index(d.below(n)))
	}
}

// Promise 34 of drawn entries: HallRead of HallForm is the entry.
func TestDrawnEntries(t *testing.T) {
	t.Parallel()
	d := &dice{state: 3001}
	seen := map[int]map[bool]int{}
	for range 20000 {
		e := diceEntry(d)
		has := wantFormOrNot(t, "drawn", e)
		if seen[e.Kind] == nil {
			seen[e.Kind] = map[bool]int{}
		}
		seen[e.Kind][has]++
		if t.Failed() {
			return
		}
	}
	for kind := 1; kind <= 8; kind++ {
		canBeLong := kind == impl.HallSlip || kind == impl.HallAct
		if seen[kind][true] < 500 || seen[kind][false] > 0 != canBeLong {
			t.Errorf("the dice showed too little of the Kind %d: %v", kind, seen[kind])
		}
	}
}

func TestDrawnEntriesWithSomethingTurned(t *testing.T) {
	t.Parallel()
	d := &dice{state: 3002}
	seen := map[bool]int{}
	for range 30000 {
		e := copyEntry(diceEntry(d))
		for range 1 + d.below(2) {
			turnEntry(d, &e)
		}
		seen[wantFormOrNot(t, "turned", e)]++
		if t.Failed() {
			return
		}
	}
	if seen[true] < 3000 || seen[false] < 3000 {
		t.Errorf("the dice showed too little: %v", seen)
	}
}

// No two entries have one form.
func TestDrawnEntriesWithOneForm(t *testing.T) {
	t.Parallel()
	d := &dice{state: 3003}
	entries := map[string]impl.HallEntry{}
	again := 0
	for range 20000 {
		e := copyEntry(diceEntry(d))
		e.Number = 1
		if d.below(2) == 0 {
			turnEntry(d, &e)
		}
		form := impl.HallForm(e)
		other, there := entries[form]
		if form != "" && there && !sameWhole(other, e) {
			t.Fatalf("%s and %s have both the form %q", entryTold(other), entryTold(e), form)
		}
		if form != "" && there {
			again++
		}
		entries[form] = e
	}
	if again < 100 || len(entries) < 5000 {
		t.Errorf("the dice showed too little: %d forms, %d of them again", len(entries), again)
	}
}

func diceWord(d *dice) string {
	known := strings.Fields("slip draw back bound time sweep act sea make change end letgo give take tick fails sink raise drain load")
	return oneOf(d, oneOf(d, known...), oneOf(d, known...), diceName(d), count(diceDecimal(d)), count(diceDecimal(d)), "*", "*", "drop", "a:0", "1:4", "1:4,2:5", "a:0,b:1", ",,,,,", "1,2,,1,,", "a,b", "")
}

// turnText turns a text at one place.
func turnText(d *dice, s string) string {
	at := d.below(len(s) + 1)
	words := strings.Split(s, " ")
	word := d.below(len(words))
	switch d.below(9) {
	case 0:
		return s[:at] + oneOf(d, " ", "*", ",", ":", "0", "1", "a", "-", "A", "\x00", "\xff") + s[at:]
	case 1:
		return s[:max(0, at-1)] + s[at:]
	case 2:
		return s[:at]
	case 3:
		words = slices.Delete(words, word, word+1)
	case 4:
		words = slices.Insert(words, word, diceWord(d))
	case 5:
		other := d.below(len(words))
		words[word], words[other] = words[other], words[word]
	case 6:
		words[word] += oneOf(d, ",", ":", "0", "x", ",a", ":0", ",1:2", ",a:1")
	default:
		words[word] = diceWord(d)
	}
	return strings.Join(words, " ")
}

// Promise 34 of drawn texts: what is read has the text as its form, and nothing else is read.
func TestDrawnTexts(t *testing.T) {
	t.Parallel()
	d := &dice{state: 3004}
	seen := map[bool]int{}
	for range 30000 {
		text := impl.HallForm(diceEntry(d))
		for range 1 + d.below(2) {
			text = turnText(d, text)
		}
		seen[wantReadOrNot(t, "turned", text)]++
		if t.Failed() {
			return
		}
	}
	if seen[true] < 3000 || seen[false] < 3000 {
		t.Errorf("the dice showed too little: %v", seen)
	}
}

func TestDrawnTextsWordByWord(t *testing.T) {
	t.Parallel()
	d := &dice{state: 3005}
	seen := map[bool]int{}
	for range 60000 {
		words := []string{oneOf(d, "draw", "back", "bound", "time", "sweep", "act", "sea", "slip", diceWord(d)), count(diceDecimal(d))}
		for range d.below(7) {
			words = append(words, diceWord(d))
		}
		seen[wantReadOrNot(t, "of words", strings.Join(words, " "))]++
		if t.Failed() {
			return
		}
	}
	if seen[true] < 300 || seen[false] < 3000 {
		t.Errorf("the dice showed too little: %v", seen)
	}
}

func TestDrawnTextsOfAnyBytes(t *testing.T) {
	d := &dice{state: 3006}
	for range 5000 {
		text := make([]byte, d.below(200))
		for i := range text {
			text[i] = byte(d.below(256))
		}
		wantUnread(t, "any bytes", string(text))
	}
}
