package tests

import (
	"slices"
	"testing"

	"loop.example/wharfhall/impl"
)

// crewCase is a crew's book, and what a steward asks for then.
type crewCase struct {
	want, down, over int
	copies           string
	asked            string
}

func wantCrews(t *testing.T, kind int, cases []crewCase) {
	t.Helper()
	for _, c := range cases {
		b := crewBook(c.want, c.down, c.over, c.copies)
		wantCrew(t, "of "+c.copies, kind, b, c.asked)
		if kind == impl.StewMender {
			continue
		}
		b.Services[0].Gone = true
		for i, k := range []int{impl.StewCounter, impl.StewWaver, impl.StewDrainer} {
			wantCrew(t, "Gone "+count(i), k, b, "")
		}
	}
}

// More are there than Want and Over, so that the counter asks for the first to end of all.
func TestTheFirstToEnd(t *testing.T) {
	wantCrews(t, impl.StewCounter, []crewCase{
		// One that is not ready ahead of one that is, whatever else is so.
		{2, 1, 0, "W R R", "-1"}, {2, 1, 0, "S R R", "-1"}, {2, 1, 0, "F R R", "-1"},
		{2, 1, 0, "R W R", "-2"}, {2, 1, 0, "R R S", "-3"}, {2, 1, 0, "R R R", "-3"},
		{2, 1, 0, "W Ro R", "-1"}, {2, 1, 0, "S Rd Ro", "-1"}, {2, 1, 0, "F Rod Rod", "-1"},
		{2, 1, 0, "W Rod R", "-1"}, {2, 1, 0, "Rod S Rod", "-2"},
		// Among those that are not ready no State is ahead of another.
		{2, 1, 0, "W S F", "-3"}, {2, 1, 0, "F S W", "-3"}, {2, 1, 0, "S F W", "-3"}, {2, 1, 0, "W F S", "-3"},
		// Then one of an old image, whatever is behind that.
		{2, 1, 0, "Wo W S", "-1"}, {2, 1, 0, "So Sd S", "-1"}, {2, 1, 0, "F Fo Fd", "-2"}, {2, 1, 0, "Wo Sd Fd", "-1"},
		{2, 1, 0, "Ro R R", "-1"}, {2, 1, 0, "Ro Rd R", "-1"}, {2, 1, 0, "Rd R Ro", "-3"}, {2, 1, 0, "Ro Rd Rd", "-1"},
		{2, 1, 0, "Ro Ro R", "-2"}, {2, 1, 0, "Wo So R", "-2"}, {2, 1, 0, "So Wo R", "-2"},
		// Then one on a berth that is to be drained; one without a berth is on none.
		{2, 1, 0, "Sd S S", "-1"}, {2, 1, 0, "S Fd F", "-2"}, {2, 1, 0, "Sd W W", "-1"}, {2, 1, 0, "W Sd W", "-2"},
		{2, 1, 0, "Rd R R", "-1"}, {2, 1, 0, "R Rd R", "-2"}, {2, 1, 0, "Rod Ro Ro", "-1"}, {2, 1, 0, "Sod Wo So", "-1"},
		{2, 1, 0, "Rd Rd R", "-2"}, {2, 1, 0, "Rod Rd Ro", "-1"},
		// Then the greatest Number; those that are Ending are not asked.
		{2, 1, 0, "R R R R", "-4"}, {2, 1, 0, "R R R Re", "-3"}, {2, 1, 0, "We R R R Fode", "-4"}, {2, 1, 0, "W W W We", "-3"},
		{2, 1, 0, "Rod Rod Rod R", "-3"}, {2, 1, 0, "Sod Fod Sod Rod S", "-3"},
	})
}

// An image is old that is another one, be it greater or less.
func TestAnOldImageIsAnotherOne(t *testing.T) {
	for _, image := range []int{1, 3, impl.StewMaxNumber} {
		b := crewBook(2, 1, 0, "R R R")
		b.Copies[1].Image = image
		wantCrew(t, "image "+count(image), impl.StewCounter, b, "-2")
		wantCrew(t, "image "+count(image), impl.StewWaver, b, "-2")
		b.Berths[0].Drain = true
		wantCrew(t, "all drained", impl.StewCounter, b, "-2")
		wantCrew(t, "all drained", impl.StewDrainer, b, "")
		b.Copies[1].Image = 2
		wantCrew(t, "all drained", impl.StewDrainer, b, "-3")
	}
}

func TestTheCounter(t *testing.T) {
	wantCrews(t, impl.StewCounter, []crewCase{
		// L one less than Want, equal, one more.
		{3, 1, 2, "R R", "+1"}, {3, 1, 2, "R R R", ""}, {3, 1, 2, "R R R R", "-4"}, {3, 1, 2, "", "+3"}, {10, 1, 2, "", "+10"},
		{3, 1, 2, "W S F", ""}, {3, 1, 2, "R R Re", "+1"}, {3, 1, 2, "Re Re Re R", "+2"}, {3, 1, 2, "R R R Re", ""},
		{0, 1, 2, "", ""}, {0, 1, 2, "R", "-1"}, {0, 0, 2, "Re", ""}, {0, 0, 2, "R R R", "-3"},
		// Too few are created whatever is old or drained.
		{3, 1, 2, "Ro Rod", "+1"}, {3, 1, 2, "Rd", "+2"}, {3, 1, 2, "Fod", "+2"},
		// O and B of 0 and above 0, each alone, with L up to Want and Over together, and one more.
		{3, 1, 2, "R R R R R", "-5"}, {3, 1, 2, "R R R R Ro", ""}, {3, 1, 2, "R R R R Rd", ""}, {3, 1, 2, "R R R R Rod", ""},
		{3, 1, 2, "Ro R R R", ""}, {3, 1, 2, "Rd R R R", ""}, {3, 1, 2, "W R R Rd", ""}, {3, 1, 2, "W R R Ro", ""},
		{3, 1, 2, "Ro R R R R R", "-1"}, {3, 1, 2, "R Rd R R R R", "-2"}, {3, 1, 2, "Ro Rd R R R W", "-6"},
		{3, 1, 0, "R R Ro R", "-3"}, {3, 1, 0, "R R Rd R", "-3"}, {3, 1, 0, "R R Ro", ""}, {3, 1, 0, "R R Rd", ""},
		{3, 1, 10, "Ro Ro Ro Ro Ro Ro Ro Ro Ro Ro Ro Ro Ro", ""}, {3, 1, 10, "Ro Ro Ro Ro Ro Ro Ro Ro Ro Ro Ro Ro Ro Ro", "-14"},
		// Those that are Ending are neither old nor on such berths.
		{3, 1, 2, "R R R R Roe", "-4"}, {3, 1, 2, "Rde R R R R", "-5"}, {3, 1, 2, "Rode Sode R R R R", "-6"},
	})
}

// Where the first to end of more than Want is ready, all are, and so enough are beside it: it may end whatever Down is,
// and no other one is ever asked for in its place.
func TestTheCountersFirstMayAlwaysEnd(t *testing.T) {
	wantCrews(t, impl.StewCounter, []crewCase{
		{3, 0, 1, "R R R R", "-4"}, {3, 0, 1, "R R R W", "-4"}, {3, 0, 1, "R R W W W", "-5"}, {1, 0, 1, "R R", "-2"},
	})
	for want := range 4 {
		for down := range 3 {
			for _, copies := range []string{"R R R R R", "Ro Rd R S W", "Rod Rod Rod Rod Rod", "R R R R W", "Fo Fd F R R"} {
				b := crewBook(want, down, 1, copies)
				if got := wantAsked(t, copies, impl.StewCounter, b); len(got) != 1 || len(got[0].Ends) != 1 {
					t.Errorf("in %s %s is asked for", stewTold(b), asksTold(got))
				}
			}
		}
	}
}

func TestTheWaver(t *testing.T) {
	wantCrews(t, impl.StewWaver, []crewCase{
		// O of 0 and above.
		{3, 1, 2, "R R R", ""}, {3, 1, 2, "R R Ro", "+1"}, {3, 1, 2, "R R Fo", "+1"}, {3, 1, 2, "R R R Roe", ""}, {3, 1, 2, "Rd R R", ""},
		// L one less than Want, Want, one less than Want and Over together, equal, more.
		{3, 1, 2, "R Ro", ""}, {3, 1, 2, "Ro Ro Roe", ""}, {3, 1, 2, "Ro Ro Ro", "+1"}, {3, 1, 2, "Ro Ro Ro R", "+1"},
		{3, 1, 2, "Ro Ro Ro R R", "-3"}, {3, 1, 2, "Ro Ro Ro R R R", "-3"}, {3, 1, 2, "Ro Ro Ro R R R R", "-3"},
		{3, 1, 2, "Ro Ro Ro R Re", "+1"}, {0, 1, 2, "Ro", "+1"}, {0, 1, 1, "Ro", "-1"}, {0, 1, 2, "Ro Ro", "-2"},
		// Over of 0: one ends first, as far as one may be down.
		{3, 1, 0, "Ro Ro Ro", "-3"}, {3, 1, 0, "Ro Ro R", "-2"}, {3, 1, 0, "Ro R", ""}, {3, 1, 0, "Ro R R R", "-1"},
		{3, 1, 0, "Ro R W", ""}, {3, 1, 0, "Ro Wo R", "-2"}, {3, 2, 0, "Ro R W", "-1"}, {3, 3, 0, "Ro W W", "-1"}, {3, 10, 0, "Ro W W", "-1"},
		// No old one that may end.
		{3, 0, 1, "Ro Ro Ro W", ""}, {3, 0, 1, "Ro Ro Ro S", ""}, {3, 0, 1, "Ro Ro Ro R", "-3"}, {3, 0, 1, "R R Ro F", ""},
		{3, 1, 1, "R Ro W W", ""}, {3, 1, 1, "R Ro W R", "-2"}, {3, 1, 1, "R Ro W Re R", "-2"},
		// One that may, and is not the first to end of all: that one is not old.
		{3, 1, 1, "Ro R R W", "-1"}, {3, 1, 1, "Ro R R Fd", "-1"}, {3, 1, 1, "R Ro Sd R", "-2"}, {3, 0, 1, "Ro Wo R S", "-2"},
		// Of those that may the first to end: not ready, drained, the greatest Number.
		{3, 1, 1, "Ro Fo Ro Ro", "-2"}, {3, 1, 1, "Ro Rod Ro Ro", "-2"}, {3, 1, 1, "Rod So Rod Ro", "-2"}, {3, 1, 1, "Ro Ro Ro R", "-3"},
		{3, 1, 1, "Fo Sod Wo R", "-2"}, {3, 1, 1, "Fo So Wo R", "-3"}, {3, 0, 1, "Rod Wo Ro R", "-2"},
	})
}

func TestTheMender(t *testing.T) {
	wantCrews(t, impl.StewMender, []crewCase{
		{3, 1, 1, "", ""}, {3, 1, 1, "R S W", ""}, {3, 1, 1, "F", "-1"}, {3, 1, 1, "R F S F W F", "-2-4-6"}, {3, 0, 1, "F F F", "-1-2-3"},
		{3, 1, 1, "Fe", ""}, {3, 1, 1, "Fe F Fe Fo Fd Fode", "-2-4-5"}, {3, 1, 1, "Re Se We", ""}, {0, 1, 1, "Fo R", "-1"},
	})
	for copies, want := range map[string]string{"": "", "R S": "", "F R F": "-1-3", "Fe F": "-2", "Fe": ""} {
		wantCrew(t, "Gone", impl.StewMender, goneCrew(copies), want)
	}
}

func TestTheSweeper(t *testing.T) {
	for copies, want := range map[string]string{
		"": "drop", "R": "-1", "R S W F": "-1-2-3-4", "Rod Fo Wo": "-1-2-3", "Re R": "-2", "R Re W Fe": "-1-3",
		"Re": "", "Re Se We Fe": "", "Fode": "",
	} {
		wantCrew(t, "Gone", impl.StewSweeper, goneCrew(copies), want)
		b := goneCrew(copies)
		b.Services[0].Gone = false
		wantCrew(t, "not Gone", impl.StewSweeper, b, "")
		b.Services[0].Want = 0
		wantCrew(t, "not Gone, none wanted", impl.StewSweeper, b, "")
	}
	all := manyCopies(impl.StewMaxCopies)
	all.Services[0].Gone = true
	acts := wantAsked(t, "full", impl.StewSweeper, all)
	if len(acts) != 1 || len(acts[0].Ends) != impl.StewMaxCopies {
		t.Errorf("%s", asksTold(acts))
	}
}

func TestTheDrainer(t *testing.T) {
	wantCrews(t, impl.StewDrainer, []crewCase{
		// O of 0 and above, B of 0 and above.
		{3, 1, 2, "R R R", ""}, {3, 1, 2, "R R Rd", "+1"}, {3, 1, 2, "R Ro Rd", ""}, {3, 1, 2, "R R Rod", ""}, {3, 1, 2, "R R Ro", ""},
		{3, 1, 2, "R R Rd Roe", "+1"}, {3, 1, 2, "Wo Rd R R R", ""},
		// L one less than Want, Want, one less than Want and Over together, equal, more.
		{3, 1, 2, "R Rd", ""}, {3, 1, 2, "Rd Rd Rd", "+1"}, {3, 1, 2, "Rd Rd Rd R", "+1"}, {3, 1, 2, "Rd Rd Rd R R", "-3"},
		{3, 1, 2, "Rd Rd Rd R R R", "-3"}, {3, 1, 2, "Rd Rd Rd R Re", "+1"}, {0, 1, 2, "Rd", "+1"}, {0, 1, 1, "Rd", "-1"},
		{3, 1, 0, "Rd R R", "-1"}, {3, 1, 0, "Rd R", ""}, {3, 1, 0, "Rd R W", ""}, {3, 2, 0, "Rd R W", "-1"},
		// Copies on such berths that are Ending.
		{3, 1, 2, "R R R Rde", ""}, {3, 1, 2, "Sde Rde R R R R R", ""}, {3, 1, 2, "Rde Rd R R R R", "-2"}, {3, 1, 1, "R R R W Rde", ""},
		// None on them that may end; one that may and is not the first to end of all.
		{3, 0, 1, "Rd Rd Rd W", ""}, {3, 0, 1, "Rd Rd Rd S", ""}, {3, 0, 1, "Rd Rd Rd R", "-3"}, {3, 1, 1, "R Rd W W", ""},
		{3, 1, 1, "Rd R R W", "-1"}, {3, 1, 1, "Rd R R F", "-1"}, {3, 1, 1, "R R Rd S", "-3"}, {3, 0, 1, "Rd Sd R W", "-2"},
		// Of those that may the first to end.
		{3, 1, 1, "Rd Fd Rd Rd", "-2"}, {3, 1, 1, "Rd Sd Fd Rd", "-3"}, {3, 1, 1, "Rd Rd Rd R", "-3"},
	})
}

func TestTheScaler(t *testing.T) {
	for _, c := range []struct {
		load, least, most, want, cool int
		asked                         string
	}{
		// A Load that Per divides, and one that it does not.
		{30, 1, 5, 3, 0, ""}, {31, 1, 5, 3, 0, "=4/0"}, {29, 1, 5, 3, 0, ""}, {21, 1, 5, 3, 0, ""}, {20, 1, 5, 3, 0, "=3/1"},
		{40, 1, 5, 3, 0, "=4/0"}, {41, 1, 5, 3, 0, "=5/0"}, {1, 0, 5, 0, 0, "=1/0"}, {0, 0, 5, 0, 0, ""}, {0, 0, 5, 1, 0, "=1/1"},
		// D below Least and above Most.
		{0, 2, 5, 2, 0, ""}, {10, 2, 5, 2, 0, ""}, {19, 2, 5, 3, 3, "=2/0"}, {11, 2, 5, 2, 0, ""}, {0, 2, 5, 2, 1, "=2/0"},
		{50, 2, 5, 5, 0, ""}, {51, 2, 5, 5, 0, ""}, {1000000, 2, 5, 5, 0, ""}, {1000000, 2, 5, 4, 0, "=5/0"}, {60, 2, 5, 5, 3, "=5/0"},
		{1000000, 0, 10, 0, 0, "=10/0"}, {1000000, 0, 0, 0, 0, ""}, {1000000, 0, 0, 0, 2, "=0/0"}, {70, 3, 3, 3, 0, ""}, {0, 3, 3, 3, 0, ""},
		// D above Want, whatever Cool is.
		{45, 1, 5, 3, 1, "=5/0"}, {45, 1, 5, 3, 2, "=5/0"}, {45, 1, 5, 3, 3, "=5/0"},
		// D below Want: Cool grows up to StewCool, and then there is one less.
		{5, 1, 5, 3, 0, "=3/1"}, {5, 1, 5, 3, 1, "=3/2"}, {5, 1, 5, 3, 2, "=3/3"}, {5, 1, 5, 3, 3, "=2/0"}, {0, 0, 5, 5, 3, "=4/0"},
		// D is Want.
		{25, 1, 5, 3, 0, ""}, {25, 1, 5, 3, 1, "=3/0"}, {25, 1, 5, 3, 2, "=3/0"}, {25, 1, 5, 3, 3, "=3/0"},
		// A Want below Least or above Most comes to the nearer one first, whatever D and Cool are.
		{45, 2, 5, 1, 0, "=2/0"}, {45, 2, 5, 0, 3, "=2/0"}, {0, 2, 5, 1, 0, "=2/0"}, {0, 2, 5, 0, 2, "=2/0"}, {99, 2, 5, 0, 0, "=2/0"},
		{5, 1, 5, 6, 0, "=5/0"}, {5, 1, 5, 6, 3, "=5/0"}, {5, 1, 5, 10, 1, "=5/0"}, {99, 1, 5, 6, 0, "=5/0"}, {99, 1, 5, 10, 3, "=5/0"},
		{0, 0, 0, 10, 3, "=0/0"}, {20, 10, 10, 9, 0, "=10/0"},
	} {
		b := loadedCrew(c.load, c.least, c.most, c.want, c.cool)
		wantCrew(t, "Load "+count(c.load)+", Cool "+count(c.cool), impl.StewScaler, b, c.asked)
		b.Services[0].Gone = true
		wantCrew(t, "Gone", impl.StewScaler, b, "")
	}
}

// A Per of 0 follows no load; great ones and small ones do.
func TestTheScalersPer(t *testing.T) {
	for want := range 11 {
		wantCrew(t, "Per 0", impl.StewScaler, crewBook(want, 1, 1, "R R R"), "")
	}
	for _, c := range []struct {
		per, load int
		asked     string
	}{
		{1, 5, ""}, {1, 6, "=6/0"}, {1, 9, "=8/0"}, {1, 1000000, "=8/0"}, {1, 4, "=5/1"}, {1000000, 1000000, "=5/1"}, {1000000, 1, "=5/1"},
		{200000, 1000000, ""}, {199999, 1000000, "=6/0"}, {200001, 1000000, ""}, {249999, 1000000, ""}, {250000, 1000000, "=5/1"},
	} {
		b := loadedCrew(c.load, 1, 8, 5, 0)
		b.Services[0].Per = c.per
		wantCrew(t, "Per "+count(c.per), impl.StewScaler, b, c.asked)
	}
}

// What the load asks for is brought in step by step, and stays.
func TestALoadThatFalls(t *testing.T) {
	b := loadedCrew(20, 1, 5, 4, 0)
	var told []string
	for range 12 {
		acts := impl.StewAsk(impl.StewScaler, b)
		if len(acts) == 0 {
			break
		}
		told = append(told, askTold(acts[0]))
		b = wantApplied(t, "falls", b, acts[0], 0)
	}
	if want := []string{"=4/1", "=4/2", "=4/3", "=3/0", "=3/1", "=3/2", "=3/3", "=2/0"}; !slices.Equal(told, want) {
		t.Errorf("%v, not %v", told, want)
	}
}
