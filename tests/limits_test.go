package tests

import (
	"testing"

	"loop.example/wharfhall/impl"
)

// The document's table of limits; the other tests speak of them by their names.
func TestLimits(t *testing.T) {
	for _, c := range []struct {
		name      string
		got, want int
	}{
		{"GateMaxName", impl.GateMaxName, 16},
		{"GateMaxValue", impl.GateMaxValue, 40},
		{"GateMaxFields", impl.GateMaxFields, 6},
		{"GateMaxShapes", impl.GateMaxShapes, 6},
		{"GateMaxWords", impl.GateMaxWords, 6},
		{"GateMaxNumber", impl.GateMaxNumber, 1000000},
		{"GateMaxHolds", impl.GateMaxHolds, 3},
		{"GateMaxVersion", impl.GateMaxVersion, 1000000},
		{"GateMaxMends", impl.GateMaxMends, 12},
		{"GateMaxTeams", impl.GateMaxTeams, 12},
		{"GateMaxDeep", impl.GateMaxDeep, 4},
		{"GateMaxObjects", impl.GateMaxObjects, 40},
		{"GateMaxGrants", impl.GateMaxGrants, 24},
		{"GateMaxLedgers", impl.GateMaxLedgers, 10},
		{"GateMaxPurses", impl.GateMaxPurses, 24},
		{"GatePurseLife", impl.GatePurseLife, 10},
		{"GateMaxWants", impl.GateMaxWants, 8},
		{"GateMaxDoors", impl.GateMaxDoors, 4},
		{"GateMaxSlips", impl.GateMaxSlips, 6},
		{"StewMaxName", impl.StewMaxName, 20},
		{"StewMaxServices", impl.StewMaxServices, 8},
		{"StewMaxWant", impl.StewMaxWant, 10},
		{"StewMaxSpare", impl.StewMaxSpare, 10},
		{"StewMaxCopies", impl.StewMaxCopies, 200},
		{"StewMaxBerths", impl.StewMaxBerths, 6},
		{"StewMaxLoad", impl.StewMaxLoad, 1000000},
		{"StewMaxNumber", impl.StewMaxNumber, 1000000},
		{"StewCool", impl.StewCool, 3},
		{"StewMaxPast", impl.StewMaxPast, 8},
		{"StewMaxCalm", impl.StewMaxCalm, 1000},
		{"RecMaxRecorders", impl.RecMaxRecorders, 5},
		{"RecMaxSlots", impl.RecMaxSlots, 120},
		{"RecMaxText", impl.RecMaxText, 160},
		{"RecMaxBallot", impl.RecMaxBallot, 1000000},
		{"RecMaxWishes", impl.RecMaxWishes, 20},
		{"RecMaxHeld", impl.RecMaxHeld, 400},
		{"RecMaxFlight", impl.RecMaxFlight, 600},
		{"RecMaxCalm", impl.RecMaxCalm, 1000},
		{"HallMaxNumber", impl.HallMaxNumber, 1000000},
		{"HallMaxAsked", impl.HallMaxAsked, 12},
		{"HallMaxCalm", impl.HallMaxCalm, 1000},
		{"HallMaxAsks", impl.HallMaxAsks, 500000},
	} {
		if c.got != c.want {
			t.Errorf("%s is %d, not %d", c.name, c.got, c.want)
		}
	}
}
