package tests

import (
	"maps"
	"testing"

	"loop.example/wharfhall/impl"
)

// memoryBooks are books in which the calls are done, refused, and not looked at further.
func memoryBooks() map[string]impl.GateBook {
	wrong := storeBook()
	wrong.Ledgers[0].Free++
	books := map[string]impl.GateBook{"the store": storeBook(), "not ok": wrong, "nothing": {}}
	maps.Copy(books, fullBooks(0))
	return books
}

func TestNoBookIsWrittenInto(t *testing.T) {
	calls := purseCalls()
	maps.Copy(calls, refusedCalls())
	for name, call := range calls {
		for what, book := range memoryBooks() {
			l, b := withRoom(storeLaw()), withRoom(book)
			lawBefore, bookBefore := opened(l), opened(b)
			call(l, b)
			wantUntouched(t, name+", "+what, l, lawBefore)
			wantUntouched(t, name+", "+what, b, bookBefore)
		}
	}
}

func TestNoBookIsWrittenIntoWhenItIsAsked(t *testing.T) {
	for what, book := range memoryBooks() {
		l, b := withRoom(storeLaw()), withRoom(book)
		lawBefore, bookBefore := opened(l), opened(b)
		impl.GateLawOk(l)
		impl.GateBookOk(l, b)
		impl.GateUsed(l, b, "yard", "tons")
		for _, o := range b.Objects {
			impl.GateWeighs(l, o, "tons")
		}
		wantUntouched(t, what, l, lawBefore)
		wantUntouched(t, what, b, bookBefore)
	}
}

func TestABookSharesNoMemory(t *testing.T) {
	calls := purseCalls()
	maps.Copy(calls, refusedCalls())
	for name, call := range calls {
		for what, book := range memoryBooks() {
			l, b := withRoom(storeLaw()), withRoom(book)
			got, _ := call(l, b)
			wantApart(t, name+", "+what, got, l, b)
		}
	}
}

// Lists that an argument has twice are apart in the answer.
func TestListsOfABookShareNoMemory(t *testing.T) {
	b, all := storeBook(), openRule()
	for i := range b.Grants {
		b.Grants[i].Rule = all
	}
	b.Objects[0].Holds = names(2)
	b.Objects[1].Holds = b.Objects[0].Holds
	for name, call := range purseCalls() {
		got, code := call(storeLaw(), b)
		if code != 0 {
			t.Errorf("%s: %d", name, code)
		}
		wantApart(t, name, got, b)
	}
}

// The same call gives the same answer again, whatever was asked between.
func TestCallsOfBooksKeepNothing(t *testing.T) {
	for name, call := range purseCalls() {
		l, b := storeLaw(), storeBook()
		first, _ := call(l, b)
		kept := bookCopy(first)
		impl.GateBookOk(l, impl.GateBook{Now: -1})
		impl.GateDraw(l, first, "d1", "mill", "area", 1)
		again, _ := call(l, b)
		if !sameBook(first, kept) || !sameBook(again, kept) {
			t.Errorf("%s: %+v, then %+v", name, first, again)
		}
	}
}
