package tests

import (
	"slices"
	"testing"

	"loop.example/wharfhall/impl"
)

// mendShapes has, of boats, three fields with a Default or none beside a link, and a second kind with fields of the same names.
func mendShapes() []impl.GateShape {
	boat := impl.GateShape{Kind: "boat", Fields: []impl.GateField{
		{Name: "size", Kind: impl.GateNumber, Least: 1, Most: 99, Default: "5"},
		{Name: "class", Kind: impl.GateWord, Words: []string{"big", "mid", "small"}},
		{Name: "home", Kind: impl.GateLink, To: "port", Role: impl.GateLeans},
		{Name: "tag", Kind: impl.GateText, Least: 1, Most: 8},
		{Name: "fee", Kind: impl.GateNumber, Least: 0, Most: 500, Must: true},
		{Name: "note", Kind: impl.GateText, Least: 2, Most: 8, Default: "none"},
	}}
	port := impl.GateShape{Kind: "port", Fields: []impl.GateField{
		{Name: "tag", Kind: impl.GateWord, Words: []string{"off", "on"}, Default: "off"},
		{Name: "size", Kind: impl.GateNumber, Least: 0, Most: 9},
	}}
	return []impl.GateShape{boat, port}
}

func boat(size, class, home, tag, fee, note string) impl.GateObject {
	return impl.GateObject{Kind: "boat", Name: "b1", Team: "dock", Values: []string{size, class, home, tag, fee, note}, Holds: []string{"tax"}, Version: 4}
}

// bareBoat has no value at all.
func bareBoat() impl.GateObject {
	return boat("", "", "", "", "", "")
}

func put(field, value string) impl.GateMend {
	return impl.GateMend{Kind: "boat", Field: field, Put: value}
}

func putWhen(field, when, is, value string) impl.GateMend {
	return impl.GateMend{Kind: "boat", Field: field, When: when, Is: is, Put: value}
}

func from(field, source string) impl.GateMend {
	return impl.GateMend{Kind: "boat", Field: field, From: source}
}

func fromWhen(field, when, is, source string) impl.GateMend {
	return impl.GateMend{Kind: "boat", Field: field, When: when, Is: is, From: source}
}

func mendsOf(mends ...impl.GateMend) []impl.GateMend {
	return mends
}

func wantMends(t *testing.T, shapes []impl.GateShape, mends []impl.GateMend, want bool) {
	t.Helper()
	if got := impl.GateMendsOk(shapes, mends); got != want {
		t.Errorf("GateMendsOk(.., %+v) = %v", mends, got)
	}
}

func wantMended(t *testing.T, shapes []impl.GateShape, mends []impl.GateMend, o impl.GateObject, values ...string) {
	t.Helper()
	want := o
	want.Values = values
	if got := impl.GateMended(shapes, mends, o); !sameObject(got, want) {
		t.Errorf("GateMended by %+v of %+v = %+v", mends, o, got)
	}
}

func wantShaped(t *testing.T, shapes []impl.GateShape, mends []impl.GateMend, o impl.GateObject, values ...string) {
	t.Helper()
	want := o
	want.Values = values
	if got := impl.GateShaped(shapes, mends, o); !sameObject(got, want) {
		t.Errorf("GateShaped by %+v of %+v = %+v", mends, o, got)
	}
}

// orders gives all orders of the places 0 to n-1.
func orders(n int) [][]int {
	if n == 0 {
		return [][]int{{}}
	}
	var out [][]int
	for _, shorter := range orders(n - 1) {
		for at := range n {
			out = append(out, slices.Insert(slices.Clone(shorter), at, n-1))
		}
	}
	return out
}

// inOrder gives a list with its parts in another order.
func inOrder[T any](list []T, order []int) []T {
	out := make([]T, len(order))
	for i, from := range order {
		out[i] = list[from]
	}
	return out
}

// dice gives the same numbers in every run.
type dice struct{ state uint64 }

func (d *dice) below(n int) int {
	d.state = d.state*6364136223846793005 + 1442695040888963407
	return int(d.state>>33) % n
}

func oneOf[T any](d *dice, list ...T) T {
	return list[d.below(len(list))]
}
