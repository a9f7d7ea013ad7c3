package tests

import (
	"math"
	"slices"
	"testing"

	"loop.example/wharfhall/impl"
)

func wantFits(t *testing.T, f impl.GateField, value string, want bool) {
	t.Helper()
	if got := impl.GateFits(f, value); got != want {
		t.Errorf("GateFits(%+v, %q) = %v", f, value, got)
	}
}

func TestFitsNumber(t *testing.T) {
	f := impl.GateField{Kind: impl.GateNumber, Least: 5, Most: 1200}
	for _, v := range []string{"5", "6", "10", "999", "1200"} {
		wantFits(t, f, v, true)
	}
	for _, v := range []string{"", "4", "0", "1201", "05", "+5", "-5", "5 ", " 5", "5.0", "5e2", "0x6", "five", "5_0", "٥", "5\x00"} {
		wantFits(t, f, v, false)
	}
}

func TestFitsNumberAtTheEndsOfDecimals(t *testing.T) {
	wide := impl.GateField{Kind: impl.GateNumber, Least: math.MinInt, Most: math.MaxInt}
	for _, v := range []string{"0", "1", "9", "1000000", "9999999"} {
		wantFits(t, wide, v, true)
	}
	for _, v := range []string{"", "00", "01", "0000001", "10000000", "99999999999999999999", "18446744073709551617", "-1", "-0"} {
		wantFits(t, wide, v, false)
	}
	wantFits(t, impl.GateField{Kind: impl.GateNumber, Least: -3, Most: 0}, "0", true)
	wantFits(t, impl.GateField{Kind: impl.GateNumber, Least: 8, Most: 7}, "8", false)
	wantFits(t, impl.GateField{Kind: impl.GateNumber, Least: 8, Most: 7}, "7", false)
}

func TestFitsWord(t *testing.T) {
	// Out of order, twice, and no names: a value fits by its row alone.
	f := impl.GateField{Kind: impl.GateWord, Words: []string{"red", "blue", "blue", "", "No Name"}}
	for _, v := range []string{"red", "blue", "No Name"} {
		wantFits(t, f, v, true)
	}
	for _, v := range []string{"", "re", "reds", "Red", "green"} {
		wantFits(t, f, v, false)
	}
	wantFits(t, impl.GateField{Kind: impl.GateWord}, "red", false)
	wantFits(t, impl.GateField{Kind: impl.GateWord}, "", false)
}

func TestFitsText(t *testing.T) {
	f := impl.GateField{Kind: impl.GateText, Least: 2, Most: 4}
	for _, v := range []string{"ab", "abc", "abcd", "!~", "A_9"} {
		wantFits(t, f, v, true)
	}
	for _, v := range []string{"", "a", "abcde", "a b", "a\x7f", "é", "日", "ab\n", "ab\x00"} {
		wantFits(t, f, v, false)
	}
	wantFits(t, impl.GateField{Kind: impl.GateText, Least: 0, Most: 9}, "", false)
	wantFits(t, impl.GateField{Kind: impl.GateText, Least: -1, Most: 0}, "a", false)
	wantFits(t, impl.GateField{Kind: impl.GateText, Least: 1, Most: 100}, long(100), true)
	wantFits(t, impl.GateField{Kind: impl.GateText, Least: 1, Most: 100}, long(101), false)
}

func TestFitsLink(t *testing.T) {
	f := impl.GateField{Kind: impl.GateLink}
	for _, v := range goodNames() {
		wantFits(t, f, v, true)
	}
	for _, v := range notNames() {
		wantFits(t, f, v, false)
	}
}

func TestFitsEveryByte(t *testing.T) {
	text := impl.GateField{Kind: impl.GateText, Least: 1, Most: 1}
	number := impl.GateField{Kind: impl.GateNumber, Least: 0, Most: 9}
	link := impl.GateField{Kind: impl.GateLink}
	for c := range 256 {
		v := string([]byte{byte(c)})
		digit := '0' <= c && c <= '9'
		wantFits(t, text, v, 33 <= c && c <= 126)
		wantFits(t, number, v, digit)
		wantFits(t, link, v, digit || c == '-' || 'a' <= c && c <= 'z')
	}
}

func TestFitsLooksAtItsRowAlone(t *testing.T) {
	f := impl.GateField{Name: "NO", Least: 1, Most: 3, Words: []string{"w"}, To: "?", Role: 9, Must: true, Fixed: true, Default: "zz", Weighs: "?"}
	for _, c := range []struct {
		kind  int
		value string
		want  bool
	}{
		{impl.GateNumber, "2", true}, {impl.GateNumber, "w", false},
		{impl.GateWord, "w", true}, {impl.GateWord, "2", false},
		{impl.GateText, "!!!", true}, {impl.GateText, "!!!!", false},
		{impl.GateLink, "longer", true}, {impl.GateLink, "!", false},
	} {
		f.Kind = c.kind
		wantFits(t, f, c.value, c.want)
	}
	for _, kind := range []int{0, 5, -1, 257, math.MaxInt, math.MinInt} {
		f.Kind = kind
		for _, v := range []string{"", "1", "w", "a", "zz"} {
			wantFits(t, f, v, false)
		}
	}
}

func wantShapes(t *testing.T, list []impl.GateShape, want bool) {
	t.Helper()
	if got := impl.GateShapesOk(list); got != want {
		t.Errorf("GateShapesOk(%+v) = %v", list, got)
	}
}

func TestShapesOrdinary(t *testing.T) {
	wantShapes(t, harbourShapes(), true)
	wantShapes(t, nil, true)
	wantShapes(t, []impl.GateShape{}, true)
	wantShapes(t, []impl.GateShape{{Kind: "a"}}, true)
	wantShapes(t, []impl.GateShape{{Kind: "a", Fields: []impl.GateField{}}}, true)
	wantShapes(t, []impl.GateShape{{}}, false)
}

func TestShapesKinds(t *testing.T) {
	shapesOf := func(kinds ...string) (list []impl.GateShape) {
		for _, k := range kinds {
			list = append(list, impl.GateShape{Kind: k})
		}
		return list
	}
	wantShapes(t, shapesOf(names(impl.GateMaxShapes)...), true)
	wantShapes(t, shapesOf(names(impl.GateMaxShapes+1)...), false)
	// A text comes ahead of a longer one that it begins; bytes decide, not numbers.
	wantShapes(t, shapesOf("-", "10", "9", "a", "a-", "a0", "aa")[:6], true)
	wantShapes(t, shapesOf("aa", "a"), false)
	wantShapes(t, shapesOf("a", "a"), false)
	wantShapes(t, shapesOf("b", "a"), false)
	wantShapes(t, shapesOf("9", "10"), false)
	for _, n := range goodNames() {
		wantShapes(t, shapesOf(n), true)
	}
	for _, n := range notNames() {
		wantShapes(t, shapesOf(n), false)
	}
}

func TestShapesFieldNames(t *testing.T) {
	fieldsOf := func(names ...string) []impl.GateShape {
		s := impl.GateShape{Kind: "k"}
		for _, n := range names {
			s.Fields = append(s.Fields, impl.GateField{Name: n, Kind: impl.GateNumber})
		}
		return []impl.GateShape{s}
	}
	wantShapes(t, fieldsOf(names(impl.GateMaxFields)...), true)
	wantShapes(t, fieldsOf(names(impl.GateMaxFields+1)...), false)
	wantShapes(t, fieldsOf("z", "a", "m"), true)
	wantShapes(t, fieldsOf("a", "a"), false)
	wantShapes(t, fieldsOf("a", "b", "a"), false)
	for _, n := range goodNames() {
		wantShapes(t, fieldsOf(n), true)
	}
	for _, n := range notNames() {
		wantShapes(t, fieldsOf(n), false)
	}
	// The same field name in two shapes is no matter.
	wantShapes(t, append(fieldsOf("a"), impl.GateShape{Kind: "l", Fields: fieldsOf("a")[0].Fields}), true)
}

func TestShapesEachListIsLookedAt(t *testing.T) {
	for i := range 3 {
		list := harbourShapes()
		list[i].Fields = append(list[i].Fields, impl.GateField{Name: "bad", Kind: 5})
		wantShapes(t, list, false)
	}
	for _, kind := range []int{0, 5, -1, math.MaxInt, math.MinInt} {
		wantShapes(t, oneField(impl.GateField{Kind: kind}), false)
		wantShapes(t, oneField(impl.GateField{Kind: kind, Most: 3, Least: 1}), false)
	}
}

func TestShapesNumber(t *testing.T) {
	const top = impl.GateMaxNumber
	for _, c := range []struct {
		least, most int
		weighs      string
		want        bool
	}{
		{0, 0, "", true}, {0, top, "", true}, {top, top, "", true}, {5, 5, "w", true},
		{0, top + 1, "", false}, {top + 1, top + 1, "", false}, {-1, 5, "", false}, {-2, -1, "", false},
		{6, 5, "", false}, {math.MinInt, math.MaxInt, "", false},
		{0, 1, long(16), true}, {0, 1, long(17), false}, {0, 1, "W", false}, {0, 1, "a b", false},
	} {
		wantShapes(t, oneField(impl.GateField{Kind: impl.GateNumber, Least: c.least, Most: c.most, Weighs: c.weighs}), c.want)
	}
}

func TestShapesWord(t *testing.T) {
	for _, c := range []struct {
		words []string
		want  bool
	}{
		{[]string{"a"}, true}, {names(impl.GateMaxWords), true}, {names(impl.GateMaxWords + 1), false},
		{nil, false}, {[]string{}, false}, {[]string{""}, false}, {[]string{"", "a"}, false},
		{[]string{"a", "a"}, false}, {[]string{"b", "a"}, false}, {[]string{"a", "aa"}, true}, {[]string{"aa", "a"}, false},
		{[]string{long(16)}, true}, {[]string{long(17)}, false}, {[]string{"A"}, false}, {[]string{"a", "c", "b"}, false},
	} {
		wantShapes(t, oneField(impl.GateField{Kind: impl.GateWord, Words: c.words}), c.want)
	}
}

func TestShapesText(t *testing.T) {
	const top = impl.GateMaxValue
	for _, c := range []struct {
		least, most int
		want        bool
	}{
		{1, 1, true}, {1, top, true}, {top, top, true}, {1, top + 1, false}, {top + 1, top + 1, false},
		{0, 3, false}, {0, 0, false}, {-1, 3, false}, {4, 3, false}, {math.MinInt, math.MaxInt, false},
	} {
		wantShapes(t, oneField(impl.GateField{Kind: impl.GateText, Least: c.least, Most: c.most}), c.want)
	}
}

func TestShapesLink(t *testing.T) {
	link := func(to string, role int, must bool, standard string) impl.GateField {
		return impl.GateField{Kind: impl.GateLink, To: to, Role: role, Must: must, Default: standard}
	}
	for _, role := range []int{impl.GateHolds, impl.GateLeans, impl.GateOwned} {
		wantShapes(t, oneField(link("thing", role, false, "")), true)
		wantShapes(t, oneField(link("thing", role, true, "")), role != impl.GateLeans)
		wantShapes(t, oneField(link("thing", role, false, "a")), false)
		wantShapes(t, oneField(link("thing", role, false, "A")), false)
		wantShapes(t, oneField(link("", role, false, "")), false)
		wantShapes(t, oneField(link("other", role, false, "")), false)
		wantShapes(t, oneField(link("thin", role, false, "")), false)
	}
	for _, role := range []int{0, 4, -1, math.MaxInt, math.MinInt} {
		wantShapes(t, oneField(link("thing", role, false, "")), false)
	}
	// A kind ahead in the list, and one behind.
	wantShapes(t, append([]impl.GateShape{{Kind: "first"}}, oneField(link("first", impl.GateHolds, true, ""))...), true)
	wantShapes(t, append(oneField(link("zlast", impl.GateHolds, true, "")), impl.GateShape{Kind: "zlast"}), true)
}

// soundFields has one field of each Kind in which all that the Kind uses is set.
func soundFields() []impl.GateField {
	return []impl.GateField{
		{Kind: impl.GateNumber, Least: 1, Most: 9, Weighs: "w"},
		{Kind: impl.GateWord, Words: []string{"a", "b"}},
		{Kind: impl.GateText, Least: 1, Most: 9},
		{Kind: impl.GateLink, To: "thing", Role: impl.GateHolds},
	}
}

func TestShapesUnusedIsNothing(t *testing.T) {
	parts := []struct {
		usedBy []int
		set    func(f *impl.GateField)
	}{
		{[]int{impl.GateNumber, impl.GateText}, func(f *impl.GateField) { f.Least = 1 }},
		{[]int{impl.GateNumber, impl.GateText}, func(f *impl.GateField) { f.Most = 9 }},
		{[]int{impl.GateWord}, func(f *impl.GateField) { f.Words = []string{"a"} }},
		{[]int{impl.GateLink}, func(f *impl.GateField) { f.To = "thing" }},
		{[]int{impl.GateLink}, func(f *impl.GateField) { f.Role = impl.GateHolds }},
		{[]int{impl.GateNumber}, func(f *impl.GateField) { f.Weighs = "w" }},
	}
	for _, sound := range soundFields() {
		wantShapes(t, oneField(sound), true)
		for _, p := range parts {
			f := sound
			p.set(&f)
			wantShapes(t, oneField(f), slices.Contains(p.usedBy, f.Kind))
		}
		if sound.Kind != impl.GateWord {
			f := sound
			f.Words = []string{}
			wantShapes(t, oneField(f), true)
		}
		sound.Fixed, sound.Must = true, true
		wantShapes(t, oneField(sound), true)
	}
}

func TestShapesDefault(t *testing.T) {
	for _, c := range []struct {
		kind     int
		standard string
		want     bool
	}{
		{impl.GateNumber, "1", true}, {impl.GateNumber, "9", true}, {impl.GateNumber, "0", false}, {impl.GateNumber, "10", false}, {impl.GateNumber, "05", false}, {impl.GateNumber, "a", false},
		{impl.GateWord, "a", true}, {impl.GateWord, "b", true}, {impl.GateWord, "c", false},
		{impl.GateText, "!", true}, {impl.GateText, long(9), true}, {impl.GateText, long(10), false}, {impl.GateText, "a b", false},
		{impl.GateLink, "a", false}, {impl.GateLink, "thing", false},
	} {
		f := soundFields()[c.kind-1]
		f.Default = c.standard
		wantShapes(t, oneField(f), c.want)
		f.Must = true
		wantShapes(t, oneField(f), c.want)
	}
}
