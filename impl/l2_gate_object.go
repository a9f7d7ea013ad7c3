package impl

import (
	"errors"
	"strconv"
)

// Limits of objects.
const (
	GateMaxHolds   = 3
	GateMaxVersion = 1000000
)

// GateObject is a thing that stands in the book.
type GateObject struct {
	Kind    string
	Name    string
	Team    string
	Values  []string
	Ending  bool
	Holds   []string
	Version int
}

// Codes of what is wrong with an object, or with what it is to become.
const (
	gateCodeNotOk = 1
	gateCodeUnset = 2
	gateCodeUnfit = 3
	gateCodeFixed = 4
)

// gateFault is what is wrong, as an error; place is that of a field, or 0.
type gateFault struct {
	code  int
	place int
}

func (f gateFault) Error() string {
	return "code " + strconv.Itoa(f.code) + " at field " + strconv.Itoa(f.place)
}

// gateFaultOf tells the code and place of an error; zeros where there is none.
func gateFaultOf(err error) (int, int) {
	var f gateFault
	if errors.As(err, &f) {
		return f.code, f.place
	}
	return 0, 0
}

func gateNotOkUnless(ok bool) error {
	if ok {
		return nil
	}
	return gateFault{code: gateCodeNotOk}
}

// gateObjectChecks are in the order of the codes. The fields come last, as they
// rely on there being as many values as fields.
func gateObjectChecks() []func(GateShape, GateObject) error {
	return []func(GateShape, GateObject) error{
		gateCheckNames,
		gateCheckSize,
		gateCheckHolds,
		gateCheckVersion,
		gateCheckFields,
	}
}

func gateCheckNames(s GateShape, o GateObject) error {
	return gateNotOkUnless(gateIsName(o.Name) && gateIsName(o.Team))
}

func gateCheckSize(s GateShape, o GateObject) error {
	return gateNotOkUnless(len(o.Values) == len(s.Fields))
}

func gateCheckHolds(s GateShape, o GateObject) error {
	return gateNotOkUnless(len(o.Holds) <= GateMaxHolds && gateAscendingNames(o.Holds))
}

func gateCheckVersion(s GateShape, o GateObject) error {
	return gateNotOkUnless(0 <= o.Version && o.Version <= GateMaxVersion)
}

// gateCheckFields goes field by field and not code by code: an earlier field
// that does not fit is told ahead of a later one that is not set.
func gateCheckFields(s GateShape, o GateObject) error {
	makers := gateMakers()
	for i, f := range s.Fields {
		value := o.Values[i]
		if value == "" && f.Must {
			return gateFault{code: gateCodeUnset, place: i}
		}
		if value != "" && !gateFitsBy(makers, f, value) {
			return gateFault{code: gateCodeUnfit, place: i}
		}
	}
	return nil
}

// gateCheckObject is GateCheck of an object whose shape is known to be ok.
func gateCheckObject(s GateShape, o GateObject) error {
	for _, check := range gateObjectChecks() {
		if err := check(s, o); err != nil {
			return err
		}
	}
	return nil
}

// gateOkShapeOf finds the shape of a kind; there is none where shapes are not ok.
func gateOkShapeOf(shapes []GateShape, kind string) (GateShape, bool) {
	if !GateShapesOk(shapes) {
		return GateShape{}, false
	}
	return gateShapeOf(shapes, kind)
}

// GateFill fills the values that are not set.
func GateFill(shapes []GateShape, o GateObject) GateObject {
	s, ok := gateOkShapeOf(shapes, o.Kind)
	if !ok || len(o.Values) != len(s.Fields) {
		return gateCopyObject(o)
	}
	return gateFillObject(s, o)
}

// gateFillObject is GateFill of an object that has as many values as its shape has fields.
func gateFillObject(s GateShape, o GateObject) GateObject {
	out := gateCopyObject(o)
	for i, f := range s.Fields {
		if out.Values[i] == "" {
			out.Values[i] = f.Default
		}
	}
	return out
}

// GateCheck is what is wrong with an object: a code, and the place of a field.
func GateCheck(shapes []GateShape, o GateObject) (int, int) {
	s, ok := gateOkShapeOf(shapes, o.Kind)
	if !ok {
		return gateCodeNotOk, 0
	}
	return gateFaultOf(gateCheckObject(s, o))
}

// GateTurned says whether an object may become another one.
func GateTurned(shapes []GateShape, old GateObject, o GateObject) (int, int) {
	s, ok := gateOkShapeOf(shapes, o.Kind)
	if !ok {
		return gateCodeNotOk, 0
	}
	return gateFaultOf(gateCheckTurn(s, old, o))
}

// gateCheckTurn is GateTurned where the shape of o is known to be ok.
func gateCheckTurn(s GateShape, old GateObject, o GateObject) error {
	same := old.Kind == o.Kind && old.Name == o.Name && old.Team == o.Team
	if !same || gateCheckObject(s, old) != nil || gateCheckObject(s, o) != nil {
		return gateFault{code: gateCodeNotOk}
	}
	for i, f := range s.Fields {
		if f.Fixed && old.Values[i] != "" && old.Values[i] != o.Values[i] {
			return gateFault{code: gateCodeFixed, place: i}
		}
	}
	return nil
}

func gateCopyObject(o GateObject) GateObject {
	o.Values = gateCopyTexts(o.Values)
	o.Holds = gateCopyTexts(o.Holds)
	return o
}

// gateCopyTexts has no spare room, so that nobody who appends meets another's memory.
func gateCopyTexts(list []string) []string {
	if list == nil {
		return nil
	}
	out := make([]string, len(list))
	copy(out, list)
	return out
}
