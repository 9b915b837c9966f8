package schema

import (
	"slices"
	"strconv"
	"strings"

	"tappet/api"
	"tappet/tree"
)

// auto is the name that stands for a number that is still to be found.
const auto = "AUTO"

// entryOf reads a value as that of a row's attribute.
func entryOf(row api.Row, v api.Value) (api.Entry, error) {
	e := api.Entry{Name: row.Name}
	switch {
	case !suits(row, v):
		return api.Entry{}, errKind
	case v.Kind == api.ValueNumber && (v.Number < row.Lo || v.Number > row.Hi):
		return api.Entry{}, errRange
	case v.Kind == api.ValueNumber:
		e.Number = v.Number
	case row.Want == api.WantNumber:
		e.Auto = true
	default:
		e.Word = v.Text
	}
	return e, nil
}

// suits tells whether a value is of the kind that a row wants.
func suits(row api.Row, v api.Value) bool {
	switch row.Want {
	case api.WantNumber:
		return v.Kind == api.ValueNumber || row.Auto && v.Kind == api.ValueName && v.Text == auto
	case api.WantWord:
		return v.Kind == api.ValueName && slices.Contains(row.Words, v.Text)
	case api.WantRef:
		return v.Kind == api.ValueName
	}
	return v.Kind == api.ValueString && (len(row.Words) == 0 || slices.Contains(row.Words, v.Text))
}

// byDefault is the entry of an attribute that was left out.
func byDefault(row api.Row) api.Entry {
	e := api.Entry{Name: row.Name}
	switch {
	case row.Want != api.WantNumber:
		e.Word = row.Default
	case row.Default == auto:
		e.Auto = true
	default:
		n, _ := strconv.ParseUint(row.Default, 10, 32)
		e.Number = uint32(n)
	}
	return e
}

// valueOf is the value that an entry of a row is read from, if there is one.
func valueOf(row api.Row, e api.Entry) api.Value {
	switch {
	case row.Want == api.WantText:
		return api.Value{Kind: api.ValueString, Text: e.Word}
	case row.Want != api.WantNumber:
		return api.Value{Kind: api.ValueName, Text: e.Word}
	case e.Auto:
		return api.Value{Kind: api.ValueName, Text: auto}
	}
	return api.Value{Kind: api.ValueNumber, Number: e.Number}
}

// says tells whether an entry holds just what is read from a value of its row, and some text has that value.
func says(row api.Row, e api.Entry, v api.Value) bool {
	read, err := entryOf(row, v)
	if err != nil || read.Number != e.Number || read.Auto != e.Auto || read.Word != e.Word {
		return false
	}
	switch row.Want {
	case api.WantRef:
		return isName(e.Word)
	case api.WantText:
		return isString(e.Word)
	}
	return true
}

// isName tells whether a text is a name of layer 2: layer 3, on which this one stands, reads it as one. Other texts may be read as more than a name, but never as themselves.
func isName(s string) bool {
	t, f := tree.Parse("OIL_VERSION = \"\"; CPU " + s + " { };")
	return f.Code == api.OK && t.CPU == s
}

// isString tells whether a string of layer 2 can say a text: layer 3 reads it in one.
func isString(s string) bool {
	quoted := strings.ReplaceAll(strings.ReplaceAll(s, `\`, `\\`), `"`, `\"`)
	_, f := tree.Parse("OIL_VERSION = \"" + quoted + "\"; CPU c { };")
	return f.Code == api.OK
}
