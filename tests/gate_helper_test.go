package tests

import (
	"strconv"
	"strings"

	"loop.example/wharfhall/impl"
)

// Every call gives new memory, so that a test may spoil what it got.
func harbourShapes() []impl.GateShape {
	crane := impl.GateShape{Kind: "crane", Fields: []impl.GateField{
		{Name: "lift", Kind: impl.GateNumber, Least: 1, Most: 90, Must: true, Weighs: "tons"},
		{Name: "colour", Kind: impl.GateWord, Words: []string{"blue", "green", "red"}, Default: "green"},
		{Name: "label", Kind: impl.GateText, Least: 2, Most: 5, Fixed: true},
	}}
	pier := impl.GateShape{Kind: "pier", Fields: []impl.GateField{
		{Name: "length", Kind: impl.GateNumber, Least: 0, Most: 500, Default: "0", Fixed: true},
		{Name: "has", Kind: impl.GateLink, To: "crane", Role: impl.GateHolds, Must: true},
		{Name: "near", Kind: impl.GateLink, To: "pier", Role: impl.GateLeans},
		{Name: "part", Kind: impl.GateLink, To: "pier", Role: impl.GateOwned, Fixed: true},
	}}
	stone := impl.GateShape{Kind: "stone"}
	return []impl.GateShape{crane, pier, stone}
}

func crane() impl.GateObject {
	return impl.GateObject{Kind: "crane", Name: "c1", Team: "dock", Values: []string{"40", "red", "old!"}, Holds: []string{"fleet", "tax"}, Version: 3}
}

func pier() impl.GateObject {
	return impl.GateObject{Kind: "pier", Name: "p1", Team: "dock", Values: []string{"200", "c1", "", "p0"}, Version: 9}
}

// oneField puts a field into a list in which nothing else can be wrong.
func oneField(f impl.GateField) []impl.GateShape {
	f.Name = "field"
	return []impl.GateShape{{Kind: "thing", Fields: []impl.GateField{f}}}
}

// names gives n names, ascending.
func names(n int) []string {
	list := make([]string, n)
	for i := range list {
		list[i] = "n" + strconv.Itoa(100+i)
	}
	return list
}

func long(n int) string {
	return strings.Repeat("x", n)
}

// notNames are texts that are no names.
func notNames() []string {
	return []string{"", long(17), "A", "aB", "a_b", "a b", "a.", "é", "a\x00", "\xff", "a/", "a:", "a`", "a{"}
}

// goodNames are the edges of what a name is.
func goodNames() []string {
	return []string{"a", "z", "0", "9", "-", "--", "007", long(16), "a-z09"}
}
