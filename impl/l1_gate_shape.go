package impl

import "slices"

// Limits of shapes.
const (
	GateMaxName   = 16
	GateMaxValue  = 40
	GateMaxFields = 6
	GateMaxShapes = 6
	GateMaxWords  = 6
	GateMaxNumber = 1000000
)

// Kinds of fields.
const (
	GateNumber = 1
	GateWord   = 2
	GateText   = 3
	GateLink   = 4
)

// Roles of links.
const (
	GateHolds = 1
	GateLeans = 2
	GateOwned = 3
)

// GateField is a field of a shape.
type GateField struct {
	Name    string
	Kind    int
	Least   int
	Most    int
	Words   []string
	To      string
	Role    int
	Must    bool
	Fixed   bool
	Default string
	Weighs  string
}

// GateShape is the fields of a kind.
type GateShape struct {
	Kind   string
	Fields []GateField
}

// gateKind is what a field's Kind makes of the field.
type gateKind interface {
	fits(value string) bool
	sound(list []GateShape) bool
	without(f GateField) GateField
}

// gateMakers gives, by number, what makes a kind of a field. It is built anew
// where it is needed, as nothing is kept between two calls.
func gateMakers() map[int]func(GateField) gateKind {
	return map[int]func(GateField) gateKind{
		GateNumber: newGateNumber,
		GateWord:   newGateWord,
		GateText:   newGateText,
		GateLink:   newGateLink,
	}
}

type gateNumberKind struct {
	least, most int
	weighs      string
}

func newGateNumber(f GateField) gateKind {
	return gateNumberKind{least: f.Least, most: f.Most, weighs: f.Weighs}
}

func (k gateNumberKind) fits(value string) bool {
	n, ok := gateDecimal(value)
	return ok && k.least <= n && n <= k.most
}

func (k gateNumberKind) sound(list []GateShape) bool {
	return 0 <= k.least && k.least <= k.most && k.most <= GateMaxNumber && gateEmptyOrName(k.weighs)
}

func (k gateNumberKind) without(f GateField) GateField {
	f.Least, f.Most, f.Weighs = 0, 0, ""
	return f
}

type gateWordKind struct {
	words []string
}

func newGateWord(f GateField) gateKind {
	return gateWordKind{words: f.Words}
}

func (k gateWordKind) fits(value string) bool {
	// The empty text means "not set", even where Words wrongly hold it.
	return value != "" && slices.Contains(k.words, value)
}

func (k gateWordKind) sound(list []GateShape) bool {
	return 1 <= len(k.words) && len(k.words) <= GateMaxWords && gateAscendingNames(k.words)
}

func (k gateWordKind) without(f GateField) GateField {
	f.Words = nil
	return f
}

type gateTextKind struct {
	least, most int
}

func newGateText(f GateField) gateKind {
	return gateTextKind{least: f.Least, most: f.Most}
}

func (k gateTextKind) fits(value string) bool {
	if value == "" || len(value) < k.least || len(value) > k.most {
		return false
	}
	for i := range len(value) {
		if value[i] < 33 || value[i] > 126 {
			return false
		}
	}
	return true
}

func (k gateTextKind) sound(list []GateShape) bool {
	return 1 <= k.least && k.least <= k.most && k.most <= GateMaxValue
}

func (k gateTextKind) without(f GateField) GateField {
	f.Least, f.Most = 0, 0
	return f
}

type gateLinkKind struct {
	to       string
	role     int
	must     bool
	fallback string
}

func newGateLink(f GateField) gateKind {
	return gateLinkKind{to: f.To, role: f.Role, must: f.Must, fallback: f.Default}
}

func (k gateLinkKind) fits(value string) bool {
	return gateIsName(value)
}

func (k gateLinkKind) sound(list []GateShape) bool {
	if _, there := gateShapeOf(list, k.to); !there || k.fallback != "" {
		return false
	}
	// A link that leans is emptied some day, which a field that must be set can't bear.
	return k.role == GateHolds || k.role == GateOwned || k.role == GateLeans && !k.must
}

func (k gateLinkKind) without(f GateField) GateField {
	f.To, f.Role = "", 0
	return f
}

// GateFits says whether a value fits a field.
func GateFits(f GateField, value string) bool {
	return gateFitsBy(gateMakers(), f, value)
}

// gateFitsBy spares those who ask for many fields the building of the makers.
func gateFitsBy(makers map[int]func(GateField) gateKind, f GateField, value string) bool {
	makeKind, known := makers[f.Kind]
	return known && makeKind(f).fits(value)
}

// GateShapesOk says whether shapes are ok.
func GateShapesOk(list []GateShape) bool {
	if len(list) > GateMaxShapes {
		return false
	}
	makers := gateMakers()
	for i, s := range list {
		if !gateIsName(s.Kind) || i > 0 && list[i-1].Kind >= s.Kind {
			return false
		}
		if !gateFieldsOk(makers, list, s.Fields) {
			return false
		}
	}
	return true
}

func gateFieldsOk(makers map[int]func(GateField) gateKind, list []GateShape, fields []GateField) bool {
	if len(fields) > GateMaxFields {
		return false
	}
	for i, f := range fields {
		if !gateIsName(f.Name) || gateHasField(fields[:i], f.Name) {
			return false
		}
		makeKind, known := makers[f.Kind]
		if !known || !gateFieldOk(makeKind(f), list, f) {
			return false
		}
	}
	return true
}

func gateFieldOk(k gateKind, list []GateShape, f GateField) bool {
	return gateUnusedEmpty(k.without(f)) && k.sound(list) && (f.Default == "" || k.fits(f.Default))
}

// gateUnusedEmpty is asked of a field without what its Kind uses: nothing else may be set.
func gateUnusedEmpty(f GateField) bool {
	return f.Least == 0 && f.Most == 0 && len(f.Words) == 0 && f.To == "" && f.Role == 0 && f.Weighs == ""
}

func gateHasField(fields []GateField, name string) bool {
	return slices.ContainsFunc(fields, func(f GateField) bool { return f.Name == name })
}

// gateShapeOf finds the first shape of a kind, whether the shapes are ok or not.
func gateShapeOf(list []GateShape, kind string) (GateShape, bool) {
	for _, s := range list {
		if s.Kind == kind {
			return s, true
		}
	}
	return GateShape{}, false
}

func gateIsName(s string) bool {
	return 1 <= len(s) && len(s) <= GateMaxName && gateNameBytes(s)
}

func gateEmptyOrName(s string) bool {
	return s == "" || gateIsName(s)
}

func gateNameBytes(s string) bool {
	for i := range len(s) {
		c := s[i]
		if c != '-' && (c < 'a' || c > 'z') && (c < '0' || c > '9') {
			return false
		}
	}
	return true
}

func gateAscendingNames(list []string) bool {
	for i, s := range list {
		if !gateIsName(s) || i > 0 && list[i-1] >= s {
			return false
		}
	}
	return true
}

// gateMaxDigits keeps a decimal small enough for any int.
const gateMaxDigits = 7

// gateDecimal reads a decimal; false for a text that is none.
func gateDecimal(s string) (int, bool) {
	if s == "" || len(s) > gateMaxDigits || s[0] == '0' && len(s) > 1 {
		return 0, false
	}
	n := 0
	for i := range len(s) {
		if s[i] < '0' || s[i] > '9' {
			return 0, false
		}
		n = 10*n + int(s[i]-'0')
	}
	return n, true
}
