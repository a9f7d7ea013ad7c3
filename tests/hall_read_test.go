package tests

import (
	"slices"
	"strings"
	"testing"

	"loop.example/wharfhall/impl"
)

// wordCases are words that may stand where the document has a word in capitals, and ones that may not.
func wordCases() map[string]struct{ good, bad []string } {
	decimals := []string{"0", "1", "9", "10", "1000001", "9999999"}
	notDecimals := []string{"", "00", "01", "0000001", "10000000", "99999999", "-1", "-0", "+1", "1.", "a", "1a", "a1", "*", "0x1", "1e1", "1_0", "\x00", "１", "18446744073709551617"}
	type cases = struct{ good, bad []string }
	return map[string]cases{
		"NUMBER":  {[]string{"1", "2", "10", "999999", "1000000"}, append(notDecimals, "0", "1000001", "9999999")},
		"DECIMAL": {decimals, notDecimals},
		"NAME":    {goodNames(), append(notNames(), "*", "a*", "a,b")},
		"OPTION":  {append(goodNames(), "*"), append(notNames(), "**", "*a", "a*", "a,b")},
		"HOLDS":   {[]string{"*", "a", "a,b", "b,a", "a,a", "0,-,x"}, append(notNames(), ",", "a,", ",a", "a,,b", "*,a", "a,*", "**", "a,B", long(17)+",a")},
		"WANTS": {[]string{"*", "a:0", "a:9999999", "a:0,b:1", "b:1,a:0", "a:0,a:0", "0:0", long(16) + ":1"},
			append(notNames(), ",", ":", "a", "a:", ":0", "a:0,", ",a:0", "a:0,,b:1", "a:00", "a:01", "a:0:0", "a:10000000", "*,a:0", "a:0,*", "*:0", "a:*", "A:0", "a:-1", "a;0", "a:0;b:1", "a::0", long(17)+":0", "a=0")},
		"ENDS": {[]string{"*", "0:0", "1:4", "1:4,2:5", "2:5,1:4", "1:4,1:4", "9999999:9999999"},
			[]string{"", ",", ":", "1", "1:", ":4", "1:4,", ",1:4", "1:4,,2:5", "01:4", "1:04", "1:4:4", "10000000:4", "1:10000000", "*,1:4", "1:4,*", "*:4", "1:*", "a:4", "1:a", "-1:4", "1:-4", "1;4", "1::4", "**"}},
		"VALUES": {[]string{",,,,,", "a,b,c,d,e,f", "1,2,,1,,", "007,0,-,9999999,10000000," + long(16), ",,,,,x", "x,,,,,", "service,,,,,"},
			[]string{"", "*", ",", ",,,,", ",,,,,,", "a,b,c,d,e", "a,b,c,d,e,f,g", "A,,,,,", ",,,,,*", "*,,,,,", ",,:,,,", long(17) + ",,,,,", ",,,,,\x00", "1;2;;1;;"}},
		"VERBS": {[]string{"0", "9", "145", "541", "11", "0123456789", "00", "10000000"}, []string{"", "*", "a", "1a", "a1", "1,2", "-1", "1-", "1:2", "+1", "１", "1*", "\x00"}},
		"SCALE": {[]string{"*", "0:0", "3:0", "10:3", "9999999:9999999"}, []string{"", "3", ":", "3:", ":0", "03:0", "3:00", "3:0:0", "3:0,4:0", "**", "*:0", "3:*", "a:0", "3:a", "-3:0", "3:-0", "10000000:0", "0:10000000"}},
		"DROP":  {[]string{"*", "drop"}, []string{"", "no", "Drop", "DROP", "drop,", "dro", "drops", "1", "0", "true", "**", "*drop", "drop*"}},
	}
}

// Word by word, every form is read with all that may stand there, and with nothing else.
func TestWordsOfTexts(t *testing.T) {
	cases := wordCases()
	for _, f := range entryForms() {
		for at, stands := range strings.Fields(f.words) {
			for _, word := range cases[stands].good {
				wantRead(t, stands, withWord(f.form, at, word))
			}
			for _, word := range cases[stands].bad {
				wantUnread(t, stands, withWord(f.form, at, word))
			}
		}
	}
}

// A word that is not in capitals stands for itself alone.
func TestKnownWordsOfTexts(t *testing.T) {
	known := strings.Fields("slip draw back bound time sweep act sea make change end letgo give take tick fails sink raise drain load")
	for _, f := range entryForms() {
		for at, stands := range strings.Fields(f.words) {
			if stands != strings.ToLower(stands) {
				continue
			}
			wantRead(t, stands, withWord(f.form, at, stands))
			for _, word := range []string{"", "x", "*", "1", strings.ToUpper(stands), strings.ToUpper(stands[:1]) + stands[1:], stands + "s", stands[1:], stands[:len(stands)-1], stands + "\x00", "wish", "set"} {
				wantUnread(t, "a word that is not known", withWord(f.form, at, word))
			}
			for _, word := range known {
				wantReadOrNot(t, "another word that is known", withWord(f.form, at, word))
			}
		}
	}
}

// Where two forms have the same words behind, the word that tells them apart does.
func TestWordsThatTellFormsApart(t *testing.T) {
	for text, turned := range map[string]string{
		"time 4": "sweep 4", "sea 9 raise a": "sea 9 drain a", "sea 9 fails web 2": "sea 9 load web 2", "sea 9 sink a": "sea 9 raise a",
		"slip 4 d1 7 * ann end 1 0": "slip 4 d1 7 * ann letgo 1 0",
	} {
		a, readA := impl.HallRead(text)
		b, readB := impl.HallRead(turned)
		if !readA || !readB || sameWhole(a, b) {
			t.Errorf("%q is read as %s, and %q as %s", text, entryTold(a), turned, entryTold(b))
		}
	}
}

func TestSpacesOfTexts(t *testing.T) {
	for _, f := range entryForms() {
		for _, text := range []string{" " + f.form, f.form + " ", "  " + f.form, f.form + "  ", f.form + "\n", "\n" + f.form, f.form + "\x00", "\ufeff" + f.form} {
			wantUnread(t, "a space ahead or behind", text)
		}
		for at := range len(f.form) {
			if f.form[at] != ' ' {
				continue
			}
			for _, between := range []string{"  ", "", "\t", "\n", "_", "\u00a0", " \t"} {
				wantUnread(t, "another thing between two words", f.form[:at]+between+f.form[at+1:])
			}
		}
	}
}

func TestHowManyWordsTextsHave(t *testing.T) {
	for _, f := range entryForms() {
		words := strings.Fields(f.form)
		for at := range words {
			wantUnread(t, "a word too few", strings.Join(slices.Delete(slices.Clone(words), at, at+1), " "))
			wantUnread(t, "words too few", strings.Join(words[:at], " "))
			wantUnread(t, "a word twice", strings.Join(slices.Insert(slices.Clone(words), at, words[at]), " "))
			for _, more := range []string{"a", "*", "0", "1"} {
				wantUnread(t, "a word too many", strings.Join(slices.Insert(slices.Clone(words), at, more), " "))
			}
		}
		for _, more := range []string{"a", "*", "0", "1", "drop", f.form} {
			wantUnread(t, "a word behind the end", f.form+" "+more)
		}
	}
}

func TestTextsThatAreNoForms(t *testing.T) {
	for _, text := range []string{
		"", " ", "  ", "*", "\x00", "\xff", "slip", "draw", "time", "time ", "time 0", "time 1 ", "sea", "sea 1", "sea 1 wish web", "sea 1 tock", "sea 1 tick 1", "sea 1 raise a drain",
		"time1", "time\x001", "wish 1", "slip 1", "slip 1 d1 1 * ann", "slip 1 d1 1 * ann ", "slip 1 d1 1 * ann pass", "act 1", "sweep 1 2", "back 2 d1 dev copies 5", "bound 3 d1 dev copies 5", "draw 1 dev copies 5",
		long(160), long(161), strings.Repeat(" ", 160), strings.Repeat("time 1 ", 20), "text",
	} {
		wantUnread(t, "no form", text)
	}
}

func TestHowLongTextsAre(t *testing.T) {
	for n := 120; n <= impl.RecMaxText+40; n++ {
		for _, text := range []string{
			"slip 1 d1 1 * ann make w x " + strings.Repeat("ab,", (n-40)/3) + long(n-33-3*((n-40)/3)) + " ,,,,,",
			"slip 1 d1 1 * ann give bob " + strings.Repeat("1", n-33) + " * * *",
			"act 6 web 5 0 * " + strings.Repeat("1:4,", (n-24)/4) + "1:" + strings.Repeat("1", n-20-4*((n-24)/4)) + " *",
		} {
			if len(text) != n {
				t.Fatalf("%q has %d bytes, not %d", text, len(text), n)
			}
			if n <= impl.RecMaxText {
				wantRead(t, "long", text)
			} else {
				wantUnread(t, "too long", text)
			}
		}
	}
	for _, n := range []int{1000, 1000000} {
		wantUnread(t, "far too long", "slip 1 d1 1 * ann give bob "+strings.Repeat("1", n)+" * * *")
	}
}

// Every text that differs in one byte from a form is read as the words say.
func TestTextsNearForms(t *testing.T) {
	t.Parallel()
	read, unread := 0, 0
	near := func(text string) {
		if wantReadOrNot(t, "near a form", text) {
			read++
		} else {
			unread++
		}
	}
	for _, f := range entryForms() {
		for at := range len(f.form) + 1 {
			for _, c := range []string{" ", "*", ",", ":", "0", "7", "a", "z", "-", "A", "_", "\x00", "\xff", "\n"} {
				near(f.form[:at] + c + f.form[at:])
				if at < len(f.form) {
					near(f.form[:at] + c + f.form[at+1:])
				}
			}
			if at < len(f.form) {
				near(f.form[:at] + f.form[at+1:])
			}
		}
	}
	if read < 1000 || unread < 1000 {
		t.Errorf("%d texts were read, %d not", read, unread)
	}
}
