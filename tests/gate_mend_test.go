package tests

import (
	"slices"
	"testing"

	"loop.example/wharfhall/impl"
)

func TestMendsOkOrdinary(t *testing.T) {
	s := mendShapes()
	wantMends(t, s, nil, true)
	wantMends(t, s, []impl.GateMend{}, true)
	wantMends(t, nil, nil, true)
	wantMends(t, s, mendsOf(put("fee", "0")), true)
	wantMends(t, s, mendsOf(from("fee", "size")), true)
	wantMends(t, s, mendsOf(putWhen("fee", "class", "big", "9")), true)
	wantMends(t, s, mendsOf(fromWhen("fee", "class", "big", "size")), true)
	// Is may be empty (where When is not set), and what When never has.
	wantMends(t, s, mendsOf(putWhen("fee", "class", "", "9")), true)
	wantMends(t, s, mendsOf(putWhen("fee", "class", "No Word", "9")), true)
	// When and From may be one field, and the kinds of From and Field may differ.
	wantMends(t, s, mendsOf(fromWhen("fee", "class", "big", "class")), true)
	// The same mend again is one more mend, and nothing else.
	wantMends(t, s, mendsOf(put("fee", "0"), put("fee", "0")), true)
	wantMends(t, s, mendsOf(impl.GateMend{Kind: "port", Field: "tag", Put: "on"}, put("tag", "x")), true)
}

func TestMendsOkLimit(t *testing.T) {
	full := slices.Repeat(mendsOf(put("fee", "0")), impl.GateMaxMends)
	wantMends(t, mendShapes(), full, true)
	wantMends(t, mendShapes(), append(full, put("fee", "0")), false)
	wantMended(t, mendShapes(), full, bareBoat(), "", "", "", "", "0", "")
	wantMended(t, mendShapes(), append(full, put("fee", "0")), bareBoat(), "", "", "", "", "", "")
}

func TestMendsOkWrongNames(t *testing.T) {
	good := fromWhen("fee", "class", "big", "size")
	wantMends(t, mendShapes(), mendsOf(good), true)
	for _, kind := range []string{"", "boa", "boats", "Boat", "port"} {
		m := good
		m.Kind = kind
		wantMends(t, mendShapes(), mendsOf(m), false)
	}
	// What is no field's Name, a link's Name, and the name of a kind.
	for _, name := range []string{"fe", "fees", "Fee", "home", "boat", " "} {
		field, when, source := good, good, good
		field.Field, when.When, source.From = name, name, name
		wantMends(t, mendShapes(), mendsOf(field), false)
		wantMends(t, mendShapes(), mendsOf(when), false)
		wantMends(t, mendShapes(), mendsOf(source), false)
		wantMends(t, mendShapes(), mendsOf(put("fee", "1"), when), false)
	}
	wantMends(t, mendShapes(), mendsOf(put("", "1")), false)
	wantMends(t, mendShapes(), mendsOf(put("home", "p1")), false)
	wantMends(t, mendShapes(), mendsOf(impl.GateMend{}), false)
	// A field of another kind's shape.
	wantMends(t, mendShapes(), mendsOf(impl.GateMend{Kind: "port", Field: "size", When: "note", Put: "1"}), false)
}

func TestMendsOkOfItself(t *testing.T) {
	wantMends(t, mendShapes(), mendsOf(putWhen("fee", "fee", "1", "2")), false)
	wantMends(t, mendShapes(), mendsOf(putWhen("fee", "fee", "", "2")), false)
	wantMends(t, mendShapes(), mendsOf(from("fee", "fee")), false)
	wantMends(t, mendShapes(), mendsOf(fromWhen("fee", "class", "big", "fee")), false)
	wantMends(t, mendShapes(), mendsOf(fromWhen("fee", "fee", "1", "size")), false)
}

func TestMendsOkWrongParts(t *testing.T) {
	isAlone := put("fee", "1")
	isAlone.Is = "big"
	wantMends(t, mendShapes(), mendsOf(isAlone), false)
	isAlone = from("fee", "size")
	isAlone.Is = "big"
	wantMends(t, mendShapes(), mendsOf(isAlone), false)
	both := from("fee", "size")
	both.Put = "1"
	wantMends(t, mendShapes(), mendsOf(both), false)
	wantMends(t, mendShapes(), mendsOf(put("fee", "")), false)
	wantMends(t, mendShapes(), mendsOf(putWhen("fee", "class", "big", "")), false)
}

func TestMendsOkPutFits(t *testing.T) {
	for _, c := range []struct {
		field, value string
		want         bool
	}{
		{"size", "1", true}, {"size", "99", true}, {"size", "0", false}, {"size", "100", false}, {"size", "07", false}, {"size", "big", false},
		{"class", "big", true}, {"class", "small", true}, {"class", "bi", false}, {"class", "1", false},
		{"tag", "!", true}, {"tag", long(8), true}, {"tag", long(9), false}, {"tag", "a b", false},
		{"note", "ab", true}, {"note", "a", false},
	} {
		wantMends(t, mendShapes(), mendsOf(put(c.field, c.value)), c.want)
		wantMends(t, mendShapes(), mendsOf(put("fee", "1"), put(c.field, c.value)), c.want)
	}
}

func TestMendsOkWrongShapes(t *testing.T) {
	spoiled := mendShapes()
	spoiled[1].Fields[1].Least = -1
	wantMends(t, spoiled, mendsOf(put("fee", "1")), false)
	wantMends(t, spoiled, nil, false)
	wantMends(t, []impl.GateShape{{}}, nil, false)
	wantMends(t, nil, mendsOf(put("fee", "1")), false)
	swapped := []impl.GateShape{mendShapes()[1], mendShapes()[0]}
	wantMends(t, swapped, nil, false)
}

func TestMendsOkCircles(t *testing.T) {
	two := mendsOf(putWhen("fee", "class", "big", "1"), putWhen("class", "fee", "1", "mid"))
	wantMends(t, mendShapes(), two, false)
	wantMends(t, mendShapes(), two[:1], true)
	wantMends(t, mendShapes(), two[1:], true)
	wantMends(t, mendShapes(), mendsOf(from("fee", "size"), from("size", "fee")), false)
	wantMends(t, mendShapes(), mendsOf(from("fee", "size"), putWhen("size", "fee", "1", "2")), false)
	round := mendsOf(from("fee", "size"), from("size", "tag"), from("tag", "note"), from("note", "fee"))
	for _, order := range orders(len(round)) {
		wantMends(t, mendShapes(), inOrder(round, order), false)
		wantMends(t, mendShapes(), inOrder(round, order)[1:], true)
	}
	// A circle counts though none of its mends could ever apply, and though one ahead of it always decides.
	wantMends(t, mendShapes(), mendsOf(putWhen("fee", "class", "no", "1"), putWhen("class", "fee", "no", "mid")), false)
	wantMends(t, mendShapes(), append(mendsOf(put("fee", "7"), put("class", "mid")), two...), false)
	// Two kinds make no circle together.
	other := impl.GateMend{Kind: "port", Field: "tag", When: "size", Is: "1", Put: "on"}
	wantMends(t, mendShapes(), mendsOf(other, from("size", "tag")), true)
	// A circle of one kind spoils the mends of all.
	ring := mendsOf(other, impl.GateMend{Kind: "port", Field: "size", From: "tag"}, put("fee", "7"))
	wantMends(t, mendShapes(), ring, false)
	wantMended(t, mendShapes(), ring, bareBoat(), "", "", "", "", "", "")
	wantShaped(t, mendShapes(), ring, bareBoat(), "", "", "", "", "", "")
}

func TestMendedOrdinary(t *testing.T) {
	s := mendShapes()
	o := boat("7", "big", "p1", "tag", "20", "note")
	wantMended(t, s, nil, o, "7", "big", "p1", "tag", "20", "note")
	wantMended(t, s, mendsOf(put("fee", "0")), o, "7", "big", "p1", "tag", "0", "note")
	wantMended(t, s, mendsOf(from("fee", "size")), o, "7", "big", "p1", "tag", "7", "note")
	wantMended(t, s, mendsOf(putWhen("fee", "class", "big", "9")), o, "7", "big", "p1", "tag", "9", "note")
	wantMended(t, s, mendsOf(putWhen("fee", "class", "mid", "9")), o, "7", "big", "p1", "tag", "20", "note")
	wantMended(t, s, mendsOf(fromWhen("fee", "class", "big", "size")), o, "7", "big", "p1", "tag", "7", "note")
	wantMended(t, s, mendsOf(fromWhen("fee", "class", "mid", "size")), o, "7", "big", "p1", "tag", "20", "note")
	wantMended(t, s, mendsOf(fromWhen("fee", "class", "big", "class")), o, "7", "big", "p1", "tag", "big", "note")
	wantMended(t, s, mendsOf(impl.GateMend{Kind: "port", Field: "tag", Put: "on"}), o, "7", "big", "p1", "tag", "20", "note")
	// Mending does not fill.
	wantMended(t, s, nil, bareBoat(), "", "", "", "", "", "")
	wantMended(t, s, mendsOf(put("fee", "0")), bareBoat(), "", "", "", "", "0", "")
	o.Ending = true
	wantMended(t, s, mendsOf(put("fee", "0")), o, "7", "big", "p1", "tag", "0", "note")
}

func TestMendedWhenIsEmpty(t *testing.T) {
	s := mendShapes()
	unset := mendsOf(putWhen("fee", "class", "", "9"))
	wantMended(t, s, unset, bareBoat(), "", "", "", "", "9", "")
	wantMended(t, s, unset, boat("", "big", "", "", "", ""), "", "big", "", "", "", "")
	// A When that is not set has none of the values that an Is can name.
	wantMended(t, s, mendsOf(putWhen("fee", "class", "big", "9")), bareBoat(), "", "", "", "", "", "")
	// Neither is it set, so that this one never applies.
	never := mendsOf(fromWhen("fee", "class", "", "class"))
	wantMended(t, s, never, boat("", "", "", "", "3", ""), "", "", "", "", "3", "")
	wantMended(t, s, never, boat("", "big", "", "", "3", ""), "", "big", "", "", "3", "")
}

func TestMendedFromUnset(t *testing.T) {
	s := mendShapes()
	wantMended(t, s, mendsOf(from("fee", "size")), boat("", "", "", "", "20", ""), "", "", "", "", "20", "")
	wantMended(t, s, mendsOf(fromWhen("fee", "class", "big", "size")), boat("", "big", "", "", "20", ""), "", "big", "", "", "20", "")
	// It leaves the word to the next one.
	next := mendsOf(from("fee", "size"), put("fee", "3"))
	wantMended(t, s, next, boat("", "", "", "", "20", ""), "", "", "", "", "3", "")
	wantMended(t, s, next, boat("8", "", "", "", "20", ""), "8", "", "", "", "8", "")
	// Set is set, though the value is no value that fits.
	wantMended(t, s, next, boat(" ", "", "", "", "20", ""), " ", "", "", "", " ", "")
	// A From that a mend sets is set by then.
	wantMended(t, s, append(next, put("size", "6")), bareBoat(), "6", "", "", "", "6", "")
}

func TestMendedFirstDecides(t *testing.T) {
	s := mendShapes()
	mends := mendsOf(
		putWhen("fee", "class", "big", "300"),
		fromWhen("fee", "tag", "own", "size"),
		putWhen("fee", "class", "mid", "200"),
		put("fee", "100"),
		putWhen("fee", "class", "small", "50"),
	)
	for _, c := range []struct{ size, class, tag, fee string }{
		{"7", "big", "own", "300"}, {"7", "big", "", "300"},
		{"7", "mid", "own", "7"}, {"", "mid", "own", "200"}, {"7", "mid", "", "200"},
		{"7", "small", "own", "7"}, {"7", "small", "", "100"}, {"", "small", "own", "100"}, {"", "", "", "100"},
	} {
		o := boat(c.size, c.class, "", c.tag, "1", "")
		wantMended(t, s, mends, o, c.size, c.class, "", c.tag, c.fee, "")
	}
	// The first that applies decides though it gives what the field has.
	wantMended(t, s, mendsOf(put("fee", "1"), put("fee", "2")), boat("", "", "", "", "1", ""), "", "", "", "", "1", "")
}

// Each field hangs on the next one; the mends of one field keep their places among themselves.
func TestMendedChains(t *testing.T) {
	chain := mendsOf(
		putWhen("class", "size", "9", "big"),
		put("size", "9"),
		fromWhen("tag", "class", "big", "class"),
		putWhen("fee", "tag", "big", "44"),
		from("note", "fee"),
	)
	for _, order := range orders(len(chain)) {
		mends := inOrder(chain, order)
		wantMends(t, mendShapes(), mends, true)
		wantMended(t, mendShapes(), mends, bareBoat(), "9", "big", "", "big", "44", "44")
		wantMended(t, mendShapes(), mends, boat("1", "mid", "p1", "old", "5", "n"), "9", "big", "p1", "big", "44", "44")
	}
	for _, order := range orders(6) {
		s := mendShapes()
		s[0].Fields = inOrder(s[0].Fields, order)
		o := bareBoat()
		wantMended(t, s, chain, o, inOrder([]string{"9", "big", "", "big", "44", "44"}, order)...)
		wantShaped(t, s, chain, o, inOrder([]string{"9", "big", "", "big", "44", "44"}, order)...)
	}
}

// A field is read as it is behind its own mending, not as it came.
func TestMendedReadsWhatIsMended(t *testing.T) {
	s := mendShapes()
	mends := mendsOf(putWhen("fee", "class", "big", "9"), put("class", "mid"))
	wantMended(t, s, mends, boat("", "big", "", "", "1", ""), "", "mid", "", "", "1", "")
	mends = mendsOf(from("fee", "size"), put("size", "2"))
	wantMended(t, s, mends, boat("8", "", "", "", "1", ""), "2", "", "", "", "2", "")
	mends = mendsOf(putWhen("size", "note", "go", "2"), from("note", "tag"), put("tag", "go"))
	wantMended(t, s, mends, boat("8", "", "", "t", "1", "n"), "2", "", "", "go", "1", "go")
}

func TestMendedAsItIs(t *testing.T) {
	good := mendsOf(put("fee", "7"), put("size", "8"))
	for _, kind := range []string{"", "none", "boa", "Boat"} {
		o := boat("", "", "", "", "1", "")
		o.Kind = kind
		wantMended(t, mendShapes(), good, o, o.Values...)
		wantShaped(t, mendShapes(), good, o, o.Values...)
	}
	for _, values := range [][]string{nil, {}, {""}, {"", "", "", "", ""}, {"", "", "", "", "", "", ""}} {
		o := bareBoat()
		o.Values = values
		wantMended(t, mendShapes(), good, o, values...)
		wantShaped(t, mendShapes(), good, o, values...)
	}
	spoiled := mendShapes()
	spoiled[1].Kind = "a"
	for _, shapes := range [][]impl.GateShape{nil, spoiled} {
		wantMended(t, shapes, good, bareBoat(), "", "", "", "", "", "")
		wantShaped(t, shapes, good, bareBoat(), "", "", "", "", "", "")
		wantShaped(t, shapes, nil, bareBoat(), "", "", "", "", "", "")
	}
	// One mend that is not ok keeps all others from being done, and from being filled.
	for _, bad := range []impl.GateMend{{}, put("home", "p1"), put("fee", "501"), from("fee", "fee"), {Kind: "none", Field: "fee", Put: "1"}} {
		wantMended(t, mendShapes(), append(mendsOf(put("fee", "7")), bad), bareBoat(), "", "", "", "", "", "")
		wantShaped(t, mendShapes(), append(mendsOf(put("fee", "7")), bad), bareBoat(), "", "", "", "", "", "")
	}
}

// Mending asks nothing of an object but its Kind and how many Values it has.
func TestMendedOfWhatIsNotChecked(t *testing.T) {
	o := impl.GateObject{Kind: "boat", Name: "?", Values: []string{"x", "y", "Z", " ", "-1", ""}, Holds: []string{"b", "a", "", "a"}, Version: -3}
	wantMended(t, mendShapes(), mendsOf(from("fee", "tag")), o, "x", "y", "Z", " ", " ", "")
	wantShaped(t, mendShapes(), mendsOf(from("fee", "tag")), o, "x", "y", "Z", " ", " ", "none")
	bare := []impl.GateShape{{Kind: "stone"}}
	wantMended(t, bare, nil, impl.GateObject{Kind: "stone", Ending: true})
	wantShaped(t, bare, nil, impl.GateObject{Kind: "stone", Holds: []string{"h"}})
}

func TestShapedOrdinary(t *testing.T) {
	s := mendShapes()
	wantShaped(t, s, nil, bareBoat(), "5", "", "", "", "", "none")
	wantShaped(t, s, nil, boat("7", "big", "p1", "tag", "20", "note"), "7", "big", "p1", "tag", "20", "note")
	// What was filled in is what mends read.
	wantShaped(t, s, mendsOf(from("fee", "size")), bareBoat(), "5", "", "", "", "5", "none")
	wantShaped(t, s, mendsOf(putWhen("fee", "note", "none", "3")), bareBoat(), "5", "", "", "", "3", "none")
	wantShaped(t, s, mendsOf(putWhen("fee", "note", "", "3")), bareBoat(), "5", "", "", "", "", "none")
	// A mend turns what was filled in, as it turns any value.
	wantShaped(t, s, mendsOf(put("size", "8")), bareBoat(), "8", "", "", "", "", "none")
	o := impl.GateObject{Kind: "port", Values: []string{"", ""}}
	wantShaped(t, s, mendsOf(impl.GateMend{Kind: "port", Field: "size", When: "tag", Is: "off", Put: "4"}), o, "off", "4")
	wantMended(t, s, mendsOf(impl.GateMend{Kind: "port", Field: "size", When: "tag", Is: "off", Put: "4"}), o, "", "")
}
