package tests

import (
	"slices"
	"strings"
	"testing"

	"loop.example/wharfhall/impl"
)

// broughtByHand brings a text, behind those that are ahead of it, into the books that these lead to; false where it
// counts for nothing.
func broughtByHand(h impl.HallHouse, b impl.HallBook, ahead []string, text string) (impl.HallBook, impl.GateSaid, bool) {
	e, read := readByHand(text)
	if !read || slices.Contains(ahead, text) {
		return b, impl.GateSaid{}, false
	}
	got, said := hallDoByHand(h, b, e)
	return got, said, true
}

// stateByHand is what chapter 32 says of HallState.
func stateByHand(h impl.HallHouse, texts []string) impl.HallBook {
	if !impl.HallHouseOk(h) {
		return impl.HallBook{}
	}
	b := impl.HallFirst(h)
	for i, text := range texts {
		b, _, _ = broughtByHand(h, b, texts[:i], text)
	}
	return b
}

// toldByHand is what chapter 32 says of HallTold.
func toldByHand(h impl.HallHouse, texts []string, text string) (impl.GateSaid, bool) {
	at := slices.Index(texts, text)
	if !impl.HallHouseOk(h) || at < 0 {
		return impl.GateSaid{}, false
	}
	_, said, counts := broughtByHand(h, stateByHand(h, texts[:at]), texts[:at], text)
	return said, counts
}

// wantLed asks for the books that texts lead to, and that they are ok.
func wantLed(t *testing.T, what string, h impl.HallHouse, texts []string, want impl.HallBook) {
	t.Helper()
	if worded := stateByHand(h, texts); !sameHall(worded, want) {
		t.Errorf("%s: by the document's words %q leads to %s, not to %s", what, texts, hallTold(worded), hallTold(want))
	}
	wantState(t, what, h, texts, want)
}

// wantState is wantLed where the document's words were asked already.
func wantState(t *testing.T, what string, h impl.HallHouse, texts []string, want impl.HallBook) {
	t.Helper()
	got := impl.HallState(h, texts)
	if !sameHall(got, want) {
		t.Errorf("%s: HallState of %q is %s,\nnot %s", what, texts, hallTold(got), hallTold(want))
	}
	if impl.HallHouseOk(h) && !impl.HallOk(h, got) {
		t.Errorf("%s: %q leads to books that are not ok: %s", what, texts, hallTold(got))
	}
}

// wantTold asks for what is said to a text that counts.
func wantTold(t *testing.T, what string, h impl.HallHouse, texts []string, text string, said impl.GateSaid) {
	t.Helper()
	if worded, counts := toldByHand(h, texts, text); !counts || worded != said {
		t.Errorf("%s: by the document's words %q is told %+v, %v among %q, not %+v", what, text, worded, counts, texts, said)
	}
	if got, ok := impl.HallTold(h, texts, text); !ok || got != said {
		t.Errorf("%s: HallTold of %q among %q is %+v, %v, not %+v", what, text, texts, got, ok, said)
	}
}

// wantUntold asks that nothing is said to a text.
func wantUntold(t *testing.T, what string, h impl.HallHouse, texts []string, text string) {
	t.Helper()
	if worded, counts := toldByHand(h, texts, text); counts {
		t.Errorf("%s: by the document's words %q is told %+v among %q", what, text, worded, texts)
	}
	if got, ok := impl.HallTold(h, texts, text); ok || got != (impl.GateSaid{}) {
		t.Errorf("%s: HallTold of %q among %q is %+v, %v", what, text, texts, got, ok)
	}
}

// yardDay are texts in yardHouse with what is said to each: a day from the first berth to the last sweep, on which
// nobody asks for anything twice.
func yardDay() []hallSaid {
	return []hallSaid{
		{"sea 1 raise a", impl.GateSaid{Version: 1}},
		{"sea 1 load web 5", undone(3)},
		{"bound 1 dock copies 9", impl.GateSaid{}},
		{"draw 1 d1 dock copies 9", impl.GateSaid{}},
		{"slip 1 d1 3 web:0 bob make web dock audit,fleet 1,2,,,10,", impl.GateSaid{Version: 4}},
		{"slip 1 d1 3 api:0 bob make api dock fleet 1,2,,,,", codeAlone(4)},
		{"slip 2 d1 3 web:0 ann make web dock fleet 1,1,,,,", impl.GateSaid{Code: 12, Place: 1}},
		{"slip 3 d2 3 log:0,web:4 ann make log dock fleet 1,1,,,,web", impl.GateSaid{Code: 10}},
		{"slip 4 d1 3 log:0,web:4 ann make log dock fleet 1,1,,,,web", impl.GateSaid{Version: 5}},
		{"slip 5 d1 3 web:4 ann letgo web fleet", codeAlone(15)},
		{"sea 2 load web 5", impl.GateSaid{Version: 4}},
		{"act 4 web 4 0 1:0 * *", impl.GateSaid{Version: 5}},
		{"act 4 web 4 0 2:0 * *", undone(4)},
		{"act 5 log 3 1 * * *", impl.GateSaid{Version: 6}},
		{"act 6 web 5 1 * * *", impl.GateSaid{Version: 7}},
		{"sea 3 tick", impl.GateSaid{Version: 8}},
		{"sea 4 tick", impl.GateSaid{Version: 9}},
		{"slip 6 d1 3 web:4 ann change web 3 1,2,,,10,", impl.GateSaid{Code: 5, Version: 4}},
		{"slip 7 d1 3 web:4 ann change web 4 1,11,,,10,", impl.GateSaid{Code: 7, Place: 1}},
		{"slip 8 d1 3 web:4 ann end web 4", impl.GateSaid{Version: 6}},
		{"sweep 1", impl.GateSaid{}},
		{"sweep 2", codeAlone(2)},
		{"slip 9 d1 3 web:6 ann letgo web audit", impl.GateSaid{Version: 8}},
		{"act 11 web 10 0 * 1:9 *", impl.GateSaid{Version: 12}},
		{"act 12 log 11 0 * 1:9 *", impl.GateSaid{Version: 13}},
		{"sea 5 tick", impl.GateSaid{Version: 14}},
		{"act 14 web 12 0 * * drop", impl.GateSaid{Version: 15}},
		{"sweep 3", codeAlone(2)},
		{"act 15 log 13 0 * * drop", impl.GateSaid{Version: 16}},
		{"time 1", impl.GateSaid{}},
		{"sweep 4", impl.GateSaid{}},
		{"back 1 d2 dock copies", codeAlone(2)},
	}
}

func dayTexts() []string {
	var texts []string
	for _, c := range yardDay() {
		texts = append(texts, c.text)
	}
	return texts
}

// wantDayTold asks that each text of the day is told, among others, what it is told on the day alone.
func wantDayTold(t *testing.T, what string, texts []string) {
	t.Helper()
	for _, c := range yardDay() {
		if got, ok := impl.HallTold(yardHouse(), texts, c.text); !ok || got != c.said {
			t.Errorf("%s: HallTold of %q among %q is %+v, %v, not %+v", what, c.text, texts, got, ok, c.said)
		}
	}
}

// textsOf are texts that stand in one, with a bar between.
func textsOf(told string) []string {
	return strings.Split(told, "|")
}

// unreadTexts are texts that HallRead does not read, near to ones that it does.
func unreadTexts() []string {
	return []string{
		"", " ", "no entry", "sea", "sea 1", "sea 1 raise", "sea 1 raise a ", " sea 1 raise a", "sea  1 raise a", "sea 01 raise a", "Sea 1 raise a",
		"sea 0 raise a", "sea 1000001 raise a", "sea 1 raise A", "sea 1 raise a\n", "sea 1 raise a\x00", "sea 1 raise " + long(17), "sea 1 wish web",
		"act 1 web 1 0 * " + strings.Repeat("1:1,", 40) + "1:1 *", strings.Repeat("sea 1 raise a", 20000), "\xff\xfe", "*",
	}
}
