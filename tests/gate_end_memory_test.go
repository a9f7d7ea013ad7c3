package tests

import (
	"reflect"
	"slices"
	"testing"

	"loop.example/wharfhall/impl"
)

// endAnswers are the four functions, by their names.
func endAnswers() map[string]func(l impl.GateLaw, b impl.GateBook) any {
	return map[string]func(l impl.GateLaw, b impl.GateBook) any{
		"GateMark":   func(l impl.GateLaw, b impl.GateBook) any { return impl.GateMark(l, b) },
		"GateGoing":  func(l impl.GateLaw, b impl.GateBook) any { return impl.GateGoing(l, b) },
		"GateDoomed": func(l impl.GateLaw, b impl.GateBook) any { return impl.GateDoomed(l, b) },
		"GateSweep": func(l impl.GateLaw, b impl.GateBook) any {
			got, _ := impl.GateSweep(l, b)
			return got
		},
	}
}

// endMemoryBooks are books of which a sweep is done, refused with each code, and has nothing left to keep.
func endMemoryBooks() map[string]impl.GateBook {
	wrong, full := livelyBook(), livelyBook()
	wrong.Ledgers[0].Free++
	full.Now = impl.GateMaxVersion
	return map[string]impl.GateBook{
		"done":    livelyBook(),
		"1":       wrong,
		"2":       endBook(ship("a", "tow=b"), held(ending(ship("b")), "h")),
		"3":       full,
		"all go":  endBook(ending(ship("a", "near=b")), ending(ship("b", "part=a"))),
		"nothing": {},
	}
}

func TestNoEndIsWrittenInto(t *testing.T) {
	for name, call := range endAnswers() {
		for what, book := range endMemoryBooks() {
			l, b := withRoom(endLaw()), withRoom(book)
			lawBefore, bookBefore := opened(l), opened(b)
			call(l, b)
			wantUntouched(t, name+", "+what, l, lawBefore)
			wantUntouched(t, name+", "+what, b, bookBefore)
		}
	}
}

func TestAnEndSharesNoMemory(t *testing.T) {
	for name, call := range endAnswers() {
		for what, book := range endMemoryBooks() {
			l, b := withRoom(endLaw()), withRoom(book)
			wantApart(t, name+", "+what, call(l, b), l, b)
		}
	}
}

// Lists that a book has twice are apart in what a sweep leaves: emptying the links of one object leaves the other's.
func TestListsOfASweepShareNoMemory(t *testing.T) {
	b := endBook(ending(ship("a")), ship("b", "near=a"), ship("c", "near=a"), held(ship("d", "near=d"), "h"), held(ship("e"), "h"))
	b.Objects[2].Values = b.Objects[1].Values
	b.Objects[4].Values, b.Objects[4].Holds = b.Objects[3].Values, b.Objects[3].Holds
	got := wantSweep(t, "shared lists", b, 11, withVersion(ship("b"), 10), withVersion(ship("c"), 11), b.Objects[3], b.Objects[4])
	wantApart(t, "shared lists", got, b)
}

// The same call gives the same answer again, whatever was asked between.
func TestEndsKeepNothing(t *testing.T) {
	for name, call := range endAnswers() {
		for what, b := range endMemoryBooks() {
			first := call(endLaw(), b)
			kept := opened(first)
			for _, other := range endMemoryBooks() {
				impl.GateSweep(endLaw(), other)
				impl.GateDoomed(endLaw(), other)
			}
			again := call(endLaw(), b)
			if !reflect.DeepEqual(opened(first), kept) || !reflect.DeepEqual(first, again) {
				t.Errorf("%s, %s: %+v, then %+v", name, what, first, again)
			}
		}
	}
}

// Where a map is gone through in another order the answer is the same.
func TestEndsAreTheSameInEveryCall(t *testing.T) {
	d := &dice{state: 4}
	for range 20 {
		l := diceEndLaw(d)
		b := diceEndBook(d, l, impl.GateMaxObjects)
		swept, code := impl.GateSweep(l, b)
		doomed := impl.GateDoomed(l, b)
		for range 20 {
			again, same := impl.GateSweep(l, b)
			if code != same || !sameBook(swept, again) || !slices.Equal(doomed, impl.GateDoomed(l, b)) {
				t.Fatalf("of %+v: %d, %+v, then %d, %+v", b, code, swept, same, again)
			}
		}
	}
}
