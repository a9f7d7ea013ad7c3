package tests

import (
	"testing"

	"loop.example/wharfhall/impl"
)

func TestWhichPlacesMajorIsAskedFor(t *testing.T) {
	w := impl.RecNewWorld(3)
	for _, at := range []int{0, 2} {
		w.Recorders[at].Safe = impl.RecDisk{Promise: 9, Slots: manySlots(impl.RecMaxSlots, 9)}
	}
	for _, index := range []int{1, 2, 60, impl.RecMaxSlots - 1, impl.RecMaxSlots} {
		wantMajor(t, "a full disk", w, index, "t"+count(index-1), true)
	}
	for _, index := range []int{-1 << 63, -120, -1, 0, impl.RecMaxSlots + 1, impl.RecMaxSlots + 2, 1<<63 - 1} {
		wantMajor(t, "no place", w, index, "", false)
	}
	wantMajor(t, "an empty disk", impl.RecNewWorld(1), 1, "", false)
	wantMajor(t, "an empty disk", impl.RecNewWorld(1), 0, "", false)
}

// majorCase is a world, and the text that most have at the first place, if most have one.
type majorCase struct {
	what string
	rows []string
	text string
	is   bool
}

func TestHowManyAreMost(t *testing.T) {
	for _, c := range []majorCase{
		{"one alone", []string{"3:a"}, "a", true},
		{"one alone, nothing taken", []string{"0:"}, "", false},
		{"one alone, no slot", []string{""}, "", false},
		{"half of two", []string{"3:a", ""}, "", false},
		{"half of two, behind", []string{"", "3:a"}, "", false},
		{"two of two", []string{"3:a", "3:a"}, "a", true},
		{"one of three", []string{"3:a", "3:b", "3:c"}, "", false},
		{"two of three", []string{"3:a", "3:b", "3:a"}, "a", true},
		{"the last two of three", []string{"3:b", "3:a", "3:a"}, "a", true},
		{"three of three", []string{"3:a", "3:a", "3:a"}, "a", true},
		{"half of four", []string{"3:a", "3:a", "", ""}, "", false},
		{"half and half", []string{"3:a", "3:b", "3:a", "3:b"}, "", false},
		{"three of four", []string{"3:b", "3:a", "3:a", "3:a"}, "a", true},
		{"two of five", []string{"3:a", "3:a", "", "0:", "4:a"}, "", false},
		{"three of five", []string{"4:a", "3:a", "3:a", "2:a", "3:a"}, "a", true},
		{"three of five who took nothing", []string{"0:", "0:", "0:", "3:a", "3:a"}, "", false},
		{"an empty text", []string{"3:", "3:", "4:a"}, "", true},
		{"one text, three ballots", []string{"3:a", "4:a", "5:a"}, "", false},
		{"one text, two and one ballots", []string{"3:a", "4:a", "4:a"}, "a", true},
		{"one ballot, two texts", []string{"3:a", "3:b"}, "", false},
		{"one ballot, a text and its beginning", []string{"3:ab", "3:a", "3:"}, "", false},
		{"one ballot, one text twice", []string{"3:b", "3:a", "3:b"}, "b", true},
	} {
		w := safeWorld(c.rows...)
		wantMajor(t, c.what, w, 1, c.text, c.is)
		// Who is not Up has a disk as well, and what is only written or known, or fixed, is not asked for.
		for i := range w.Recorders {
			w.Recorders[i].Up = false
			w.Recorders[i].Disk = disk(20, 1, "7:else")
		}
		w.Fixed = fixes("1:else")
		wantMajor(t, c.what+", down", w, 1, c.text, c.is)
		for i := range w.Recorders {
			w.Recorders[i].Safe, w.Recorders[i].Disk = w.Recorders[i].Disk, w.Recorders[i].Safe
		}
		wantMajor(t, c.what+", turned around", w, 1, "else", true)
	}
}

func TestMajorOfSeveralPlaces(t *testing.T) {
	w := safeWorld("1:a 2:b 0: 4:d", "1:a 3:b 0: 4:d 5:e", "1:z 3:b")
	for index, text := range map[int]string{1: "a", 2: "b", 4: "d"} {
		wantMajor(t, "several", w, index, text, true)
	}
	for _, index := range []int{0, 3, 5, 6} {
		wantMajor(t, "several", w, index, "", false)
	}
}

// agreed is a world in which all that is known or that most have safe is fixed, and one place more.
func agreed() impl.RecWorld {
	w := safeWorld("1:a 2:b 3:c", "1:a 3:b 3:c", "1:a")
	w.Recorders[0].Disk.Known = 2
	w.Recorders[1].Disk.Known = 1
	w.Fixed = fixes("1:a 2:b 3:c 9:x")
	return w
}

func TestWhatIsAgreed(t *testing.T) {
	wantAgree(t, "agreed", agreed(), true)
	fixed := func(row string) func(w *impl.RecWorld) {
		return func(w *impl.RecWorld) { w.Fixed = fixes(row) }
	}
	writing := func(at, known int, row string) func(w *impl.RecWorld) {
		return recorderAt(at, func(r *impl.Recorder) { r.Disk = disk(20, known, row) })
	}
	for what, turn := range map[string]func(w *impl.RecWorld){
		"no more than needed":               fixed("1:a 2:b 3:c"),
		"what nobody has":                   fixed("1:a 2:b 3:c 4:d 120:"),
		"what is not known and not of most": writing(2, 1, "1:a 9:other 9:other 9:other"),
		"what most have written alone":      func(w *impl.RecWorld) { writing(1, 1, "1:a 9:y")(w); writing(2, 1, "1:a 9:y")(w) },
		"known under another ballot":        writing(2, 2, "20:a 20:b"),
		"one that is down and knows it":     recorderAt(1, func(r *impl.Recorder) { r.Up = false }),
	} {
		wantAgree(t, what, turnedRecWorld(agreed(), turn), true)
	}
	for what, turn := range map[string]func(w *impl.RecWorld){
		"nothing is fixed":                      fixed(""),
		"a book's first text is not":            fixed("2:b 3:c"),
		"a book's last text is not":             fixed("1:a 3:c"),
		"a book's text is fixed otherwise":      fixed("1:a 2:x 3:c"),
		"a book's text is fixed as empty":       fixed("1:a 2: 3:c"),
		"a book's text is fixed elsewhere":      fixed("1:a 3:c 4:b"),
		"what most have is not":                 fixed("1:a 2:b"),
		"what most have is fixed otherwise":     fixed("1:a 2:b 3:d"),
		"what most have is fixed as empty":      fixed("1:a 2:b 3:"),
		"the last one knows another text":       writing(2, 1, "9:other"),
		"the last one knows an empty text":      writing(2, 2, "9:a 9:"),
		"the last one knows a place more":       writing(2, 4, "9:a 9:b 9:c 9:d"),
		"one that is down knows another text":   recorderAt(2, func(r *impl.Recorder) { r.Up, r.Disk = false, disk(20, 1, "9:z") }),
		"a message that is not ok":              func(w *impl.RecWorld) { w.Flight = []impl.RecMessage{{}} },
		"fixed twice":                           fixed("1:a 1:a 2:b 3:c"),
		"a recorder that is not valid":          recorderAt(2, heardTimes(-1)),
		"most have the last place, and not all": lastPlace,
	} {
		wantAgree(t, what, turnedRecWorld(agreed(), turn), false)
	}
	wantAgree(t, "nothing", impl.RecWorld{}, false)
	wantAgree(t, "an empty text is fixed, and known", emptyKnown("1:"), true)
	wantAgree(t, "an empty text is known, and nothing fixed", emptyKnown(""), false)
	wantAgree(t, "an empty text is known, and another fixed", emptyKnown("1:a"), false)
}

// lastPlace lets most have all places safe, of which all but the last are fixed.
func lastPlace(w *impl.RecWorld) {
	*w = impl.RecNewWorld(3)
	for _, at := range []int{1, 2} {
		w.Recorders[at].Safe = impl.RecDisk{Promise: 9, Slots: manySlots(impl.RecMaxSlots, 9)}
	}
	w.Fixed = allFixed(impl.RecMaxSlots - 1)
}

// emptyKnown is one that knows its first text to be empty.
func emptyKnown(fixed string) impl.RecWorld {
	w := impl.RecNewWorld(2)
	w.Recorders[1].Disk = disk(3, 1, "3:")
	w.Fixed = fixes(fixed)
	return w
}
